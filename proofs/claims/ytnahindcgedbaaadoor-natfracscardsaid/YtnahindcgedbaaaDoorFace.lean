/- The walks of Add, Sub, Mul, Compare. -/
import Derived.Test.YtnahindcgedbaaaDoorTwo
set_option linter.unusedSimpArgs false
set_option linter.unusedVariables false
namespace Go.Proofs.YtnahindcgedbaaaDoor
open Go.RowKit Go.Deep Go.PlainAid

/-! ### What is done with two numbers that were read -/
/-- A length that is bounded by the text's. -/
theorem dg_len_bv (s : ByteArray) (h : wrT s = 0) : (dg 1000000000 (bv s.data.toList)).length ≤ 4000 := by
  obtain ⟨hn, hs⟩ := wrT_zero h
  refine Nat.le_trans (dg_len_le bigBase s.size _ (Nat.lt_of_lt_of_le (bv_lt _ (isNum_all hn)) ?_)) hs
  rw [size_list]
  exact Nat.pow_le_pow_left (by omega) _
theorem dg_len_add (n m k : Nat) (h1 : (dg 1000000000 n).length ≤ k) (h2 : (dg 1000000000 m).length ≤ k) : (dg 1000000000 (n + m)).length ≤ k + 1 :=
  dg_len_le bigBase _ _ (sum_lt (lt_pow_dg bigBase n) (lt_pow_dg bigBase m) (by omega) (by omega))
theorem dg_len_mul {B : Nat} (hB : 2 ≤ B) (n m : Nat) : (dg B (n * m)).length ≤ (dg B n).length + (dg B m).length := by
  refine dg_len_le hB _ _ ?_
  rw [Nat.pow_add]
  have h1 := lt_pow_dg hB n
  have h2 := lt_pow_dg hB m
  calc n * m ≤ n * B ^ (dg B m).length := Nat.mul_le_mul_left _ (by omega)
    _ < B ^ (dg B n).length * B ^ (dg B m).length := Nat.mul_lt_mul_of_pos_right h1 (by omega)
theorem below_drawn (w : World) (k : Nat) : Below w.heap.size w (w.drewN k) := ⟨rfl, rfl, rfl, Nat.le_refl _, fun _ _ => rfl⟩

set_option maxHeartbeats 400000 in
theorem plusF_any (n m : Nat) (b1 : (dg 1000000000 n).length ≤ 4000) (b2 : (dg 1000000000 m).length ≤ 4000) (W : World) (v1 v2 : Value) (h1 : NumV W 1000000000 n v1) (h2 : NumV W 1000000000 m v2) :
    Calls Tryd.prog 51 #[v1, v2] W fun e w' => e = .returned (.tuple #[.string ⟨(txt (n + m)).toArray⟩, .int .i64 0]) ∧ Below W.heap.size W w' := by
  obtain ⟨a1, c1, rfl, k1, r1⟩ := h1
  obtain ⟨a2, c2, rfl, k2, r2⟩ := h2
  have HB : Hid ((dg 1000000000 (n + m)).length ≤ 1000000) := Nat.le_trans (dg_len_add n m 4000 b1 b2) (by omega)
  have HC : Hid (Calls Tryd.prog 52 #[.slice a1 (dg 1000000000 n).length c1, .slice a2 (dg 1000000000 m).length c2] W fun e w' => (∃ v, e = .returned v ∧ NumV w' 1000000000 (n + m) v) ∧ Below W.heap.size W w') := plus_any W a1 a2 c1 c2 n m r1 r2 (by omega) (by omega)
  generalize (dg 1000000000 n).length = x1 at *
  generalize (dg 1000000000 m).length = x2 at *
  clear r1 r2
  generalize hX : txt (n + m) = X
  have HX : Hid (txt (n + m) = X) := hX
  clear hX
  go_enter Tryd.func51, Tryd.ntmps51
  go_wp2_with fail
  refine HC.out.mono ?_
  rintro e w1 ⟨⟨v, rfl, hv⟩, hb⟩
  obtain ⟨a3, c3, rfl, k3, r3⟩ := hv
  have HT : Hid (Calls Tryd.prog 53 #[.slice a3 (dg 1000000000 (n + m)).length c3] w1 fun e w' => e = .returned (.string ⟨X.toArray⟩) ∧ Below w1.heap.size w1 w') := by
    rw [← HX.out]; exact text_any w1 a3 c3 (n + m) r3 HB.out
  have B1 : Hid (Below W.heap.size W w1) := hb
  clear hb r3 k3
  generalize (dg 1000000000 (n + m)).length = x3 at *
  go_wp2_with fail
  refine HT.out.mono ?_
  rintro e w2 ⟨rfl, hb⟩
  have B2 : Hid (Below W.heap.size W w2) := B1.out.trans (hb.mono B1.out.size)
  clear hb
  go_wp2_with fail
  go_ret2
  exact ⟨rfl, B2.out⟩

set_option maxHeartbeats 400000 in
theorem timesF_any (n m : Nat) (b1 : (dg 1000000000 n).length ≤ 4000) (b2 : (dg 1000000000 m).length ≤ 4000) (W : World) (v1 v2 : Value) (h1 : NumV W 1000000000 n v1) (h2 : NumV W 1000000000 m v2) :
    Calls Tryd.prog 55 #[v1, v2] W fun e w' => e = .returned (.tuple #[.string ⟨(txt (n * m)).toArray⟩, .int .i64 0]) ∧ Below W.heap.size W w' := by
  obtain ⟨a1, c1, rfl, k1, r1⟩ := h1
  obtain ⟨a2, c2, rfl, k2, r2⟩ := h2
  have HB : Hid ((dg 1000000000 (n * m)).length ≤ 1000000) := Nat.le_trans (dg_len_mul bigBase n m) (by omega)
  have HC : Hid (Calls Tryd.prog 56 #[.slice a1 (dg 1000000000 n).length c1, .slice a2 (dg 1000000000 m).length c2] W fun e w' => (∃ v, e = .returned v ∧ NumV w' 1000000000 (n * m) v) ∧ Below W.heap.size W w') := times_any W a1 a2 c1 c2 n m r1 r2 (by omega) (by omega)
  generalize (dg 1000000000 n).length = x1 at *
  generalize (dg 1000000000 m).length = x2 at *
  clear r1 r2
  generalize hX : txt (n * m) = X
  have HX : Hid (txt (n * m) = X) := hX
  clear hX
  go_enter Tryd.func55, Tryd.ntmps55
  go_wp2_with fail
  refine HC.out.mono ?_
  rintro e w1 ⟨⟨v, rfl, hv⟩, hb⟩
  obtain ⟨a3, c3, rfl, k3, r3⟩ := hv
  have HT : Hid (Calls Tryd.prog 53 #[.slice a3 (dg 1000000000 (n * m)).length c3] w1 fun e w' => e = .returned (.string ⟨X.toArray⟩) ∧ Below w1.heap.size w1 w') := by
    rw [← HX.out]; exact text_any w1 a3 c3 (n * m) r3 HB.out
  have B1 : Hid (Below W.heap.size W w1) := hb
  clear hb r3 k3
  generalize (dg 1000000000 (n * m)).length = x3 at *
  go_wp2_with fail
  refine HT.out.mono ?_
  rintro e w2 ⟨rfl, hb⟩
  have B2 : Hid (Below W.heap.size W w2) := B1.out.trans (hb.mono B1.out.size)
  clear hb
  go_wp2_with fail
  go_ret2
  exact ⟨rfl, B2.out⟩

set_option maxHeartbeats 400000 in
theorem subF_low (n m : Nat) (hnm : n < m) (b1 : (dg 1000000000 n).length ≤ 4000) (b2 : (dg 1000000000 m).length ≤ 4000) (W : World) (v1 v2 : Value) (h1 : NumV W 1000000000 n v1) (h2 : NumV W 1000000000 m v2) :
    Calls Tryd.prog 60 #[v1, v2] W fun e w' => e = .returned (.tuple #[.string ⟨#[]⟩, .int .i64 4]) ∧ Below W.heap.size W w' := by
  obtain ⟨a1, c1, rfl, k1, r1⟩ := h1
  obtain ⟨a2, c2, rfl, k2, r2⟩ := h2
  have HC : Hid (Calls Tryd.prog 59 #[.slice a1 (dg 1000000000 n).length c1, .slice a2 (dg 1000000000 m).length c2] W fun e w' => e = .returned (.int .i64 (-1)) ∧ ∃ k, w' = W.drewN k) := by
    have := compare_any W a1 a2 c1 c2 n m r1 r2 (by omega) (by omega)
    rw [cmp3_lt (by omega)] at this
    exact this
  generalize (dg 1000000000 n).length = x1 at *
  generalize (dg 1000000000 m).length = x2 at *
  clear r1 r2
  go_enter Tryd.func60, Tryd.ntmps60
  go_wp2_with fail
  refine HC.out.mono ?_
  rintro e w1 ⟨rfl, k, rfl⟩
  go_wp2_with fail
  go_ret2
  exact ⟨rfl, below_drawn W k⟩
set_option maxHeartbeats 400000 in
theorem subF_any (n m : Nat) (hnm : m ≤ n) (b1 : (dg 1000000000 n).length ≤ 4000) (b2 : (dg 1000000000 m).length ≤ 4000) (W : World) (v1 v2 : Value) (h1 : NumV W 1000000000 n v1) (h2 : NumV W 1000000000 m v2) :
    Calls Tryd.prog 60 #[v1, v2] W fun e w' => e = .returned (.tuple #[.string ⟨(txt (n - m)).toArray⟩, .int .i64 0]) ∧ Below W.heap.size W w' := by
  obtain ⟨a1, c1, rfl, k1, r1⟩ := h1
  obtain ⟨a2, c2, rfl, k2, r2⟩ := h2
  have HC : Hid (Calls Tryd.prog 59 #[.slice a1 (dg 1000000000 n).length c1, .slice a2 (dg 1000000000 m).length c2] W fun e w' => e = .returned (.int .i64 (cmp3 (n : Int) (m : Int))) ∧ ∃ k, w' = W.drewN k) := compare_any W a1 a2 c1 c2 n m r1 r2 (by omega) (by omega)
  have hc : ¬ cmp3 (n : Int) (m : Int) < 0 := by unfold cmp3; split <;> (try split) <;> omega
  have HB : Hid ((dg 1000000000 (n - m)).length ≤ 1000000) := Nat.le_trans (dg_len_mono bigBase (Nat.sub_le n m)) (by omega)
  have HM : Hid (∀ k, Calls Tryd.prog 61 #[.slice a1 (dg 1000000000 n).length c1, .slice a2 (dg 1000000000 m).length c2] (W.drewN k) fun e w' => (∃ v, e = .returned v ∧ NumV w' 1000000000 (n - m) v) ∧ Below W.heap.size (W.drewN k) w') := fun k => minus_any (W.drewN k) a1 a2 c1 c2 n m (r1.drew k) (r2.drew k) (by omega) hnm
  generalize (dg 1000000000 n).length = x1 at *
  generalize (dg 1000000000 m).length = x2 at *
  generalize cmp3 (n : Int) (m : Int) = c at *
  clear r1 r2
  generalize hX : txt (n - m) = X
  have HX : Hid (txt (n - m) = X) := hX
  clear hX
  go_enter Tryd.func60, Tryd.ntmps60
  go_wp2_with fail
  refine HC.out.mono ?_
  rintro e w1 ⟨rfl, k, rfl⟩
  go_wp2_with fail
  refine (HM.out k).mono ?_
  rintro e w1 ⟨⟨v, rfl, hv⟩, hb⟩
  obtain ⟨a3, c3, rfl, k3, r3⟩ := hv
  have HT : Hid (Calls Tryd.prog 53 #[.slice a3 (dg 1000000000 (n - m)).length c3] w1 fun e w' => e = .returned (.string ⟨X.toArray⟩) ∧ Below w1.heap.size w1 w') := by
    rw [← HX.out]; exact text_any w1 a3 c3 (n - m) r3 HB.out
  have B1 : Hid (Below W.heap.size W w1) := (below_drawn W k).trans hb
  clear hb r3 k3
  generalize (dg 1000000000 (n - m)).length = x3 at *
  go_wp2_with fail
  refine HT.out.mono ?_
  rintro e w2 ⟨rfl, hb⟩
  have B2 : Hid (Below W.heap.size W w2) := B1.out.trans (hb.mono B1.out.size)
  clear hb
  go_wp2_with fail
  go_ret2
  exact ⟨rfl, B2.out⟩
set_option maxHeartbeats 400000 in
theorem compareF_any (n m : Nat) (b1 : (dg 1000000000 n).length ≤ 4000) (b2 : (dg 1000000000 m).length ≤ 4000) (W : World) (v1 v2 : Value) (h1 : NumV W 1000000000 n v1) (h2 : NumV W 1000000000 m v2) :
    Calls Tryd.prog 58 #[v1, v2] W fun e w' => e = .returned (.tuple #[.int .i64 (cmp3 (n : Int) (m : Int)), .int .i64 0]) ∧ Below W.heap.size W w' := by
  obtain ⟨a1, c1, rfl, k1, r1⟩ := h1
  obtain ⟨a2, c2, rfl, k2, r2⟩ := h2
  have HC : Hid (Calls Tryd.prog 59 #[.slice a1 (dg 1000000000 n).length c1, .slice a2 (dg 1000000000 m).length c2] W fun e w' => e = .returned (.int .i64 (cmp3 (n : Int) (m : Int))) ∧ ∃ k, w' = W.drewN k) := compare_any W a1 a2 c1 c2 n m r1 r2 (by omega) (by omega)
  generalize (dg 1000000000 n).length = x1 at *
  generalize (dg 1000000000 m).length = x2 at *
  generalize cmp3 (n : Int) (m : Int) = c at *
  clear r1 r2
  go_enter Tryd.func58, Tryd.ntmps58
  go_wp2_with fail
  refine HC.out.mono ?_
  rintro e w1 ⟨rfl, k, rfl⟩
  go_wp2_with fail
  go_ret2
  exact ⟨rfl, below_drawn W k⟩

set_option maxHeartbeats 400000 in
theorem add_call {a b : ByteArray} {w : World} {B : Nat} {x y : Value} (h : Calls Tryd.prog 49 #[.func (.func 50) #[] #[], .string a, .string b, .func (.func 51) #[] #[]] w fun e w' => e = .returned (.tuple #[x, y]) ∧ Below B w w') :
    Calls Tryd.prog 11 #[.string a, .string b] w fun e w' => e = .returned (.tuple #[x, y]) ∧ Below B w w' := by
  go_enter Tryd.func11, Tryd.ntmps11
  go_wp2_with fail
  refine h.mono ?_
  rintro e w1 ⟨rfl, hb⟩
  go_wp2_with fail
  go_ret2
  exact ⟨rfl, hb⟩

set_option maxHeartbeats 400000 in
theorem mul_call {a b : ByteArray} {w : World} {B : Nat} {x y : Value} (h : Calls Tryd.prog 49 #[.func (.func 50) #[] #[], .string a, .string b, .func (.func 55) #[] #[]] w fun e w' => e = .returned (.tuple #[x, y]) ∧ Below B w w') :
    Calls Tryd.prog 15 #[.string a, .string b] w fun e w' => e = .returned (.tuple #[x, y]) ∧ Below B w w' := by
  go_enter Tryd.func15, Tryd.ntmps15
  go_wp2_with fail
  refine h.mono ?_
  rintro e w1 ⟨rfl, hb⟩
  go_wp2_with fail
  go_ret2
  exact ⟨rfl, hb⟩

set_option maxHeartbeats 400000 in
theorem sub_call {a b : ByteArray} {w : World} {B : Nat} {x y : Value} (h : Calls Tryd.prog 49 #[.func (.func 50) #[] #[], .string a, .string b, .func (.func 60) #[] #[]] w fun e w' => e = .returned (.tuple #[x, y]) ∧ Below B w w') :
    Calls Tryd.prog 19 #[.string a, .string b] w fun e w' => e = .returned (.tuple #[x, y]) ∧ Below B w w' := by
  go_enter Tryd.func19, Tryd.ntmps19
  go_wp2_with fail
  refine h.mono ?_
  rintro e w1 ⟨rfl, hb⟩
  go_wp2_with fail
  go_ret2
  exact ⟨rfl, hb⟩

set_option maxHeartbeats 400000 in
theorem compare_call {a b : ByteArray} {w : World} {B : Nat} {x y : Value} (h : Calls Tryd.prog 57 #[.func (.func 50) #[] #[], .string a, .string b, .func (.func 58) #[] #[]] w fun e w' => e = .returned (.tuple #[x, y]) ∧ Below B w w') :
    Calls Tryd.prog 17 #[.string a, .string b] w fun e w' => e = .returned (.tuple #[x, y]) ∧ Below B w w' := by
  go_enter Tryd.func17, Tryd.ntmps17
  go_wp2_with fail
  refine h.mono ?_
  rintro e w1 ⟨rfl, hb⟩
  go_wp2_with fail
  go_ret2
  exact ⟨rfl, hb⟩

/-! ### The faces -/
theorem add_ok (a b : ByteArray) (w : World) (ha : wrT a = 0) (hb : wrT b = 0) :
    Calls Tryd.prog 11 #[.string a, .string b] w fun e w' => e = .returned (.tuple #[.string ⟨(txt (bv a.data.toList + bv b.data.toList)).toArray⟩, .int .i64 0]) ∧ Below w.heap.size w w' :=
  add_call (withTwo49_51_ok a b w ha hb _ 0 (plusF_any _ _ (dg_len_bv a ha) (dg_len_bv b hb)))
theorem add_bad (a b : ByteArray) (w : World) (h : wr2 a b ≠ 0) (ha : a.size ≤ 4611686018427387904) (hb : b.size ≤ 4611686018427387904) :
    Calls Tryd.prog 11 #[.string a, .string b] w fun e w' => e = .returned (.tuple #[.string ⟨#[]⟩, .int .i64 (wr2 a b : Int)]) ∧ Below w.heap.size w w' :=
  add_call (withTwo49_bad 51 a b w h ha hb)
theorem mul_ok (a b : ByteArray) (w : World) (ha : wrT a = 0) (hb : wrT b = 0) :
    Calls Tryd.prog 15 #[.string a, .string b] w fun e w' => e = .returned (.tuple #[.string ⟨(txt (bv a.data.toList * bv b.data.toList)).toArray⟩, .int .i64 0]) ∧ Below w.heap.size w w' :=
  mul_call (withTwo49_55_ok a b w ha hb _ 0 (timesF_any _ _ (dg_len_bv a ha) (dg_len_bv b hb)))
theorem mul_bad (a b : ByteArray) (w : World) (h : wr2 a b ≠ 0) (ha : a.size ≤ 4611686018427387904) (hb : b.size ≤ 4611686018427387904) :
    Calls Tryd.prog 15 #[.string a, .string b] w fun e w' => e = .returned (.tuple #[.string ⟨#[]⟩, .int .i64 (wr2 a b : Int)]) ∧ Below w.heap.size w w' :=
  mul_call (withTwo49_bad 55 a b w h ha hb)
theorem sub_ok (a b : ByteArray) (w : World) (ha : wrT a = 0) (hb : wrT b = 0) (hab : bv b.data.toList ≤ bv a.data.toList) :
    Calls Tryd.prog 19 #[.string a, .string b] w fun e w' => e = .returned (.tuple #[.string ⟨(txt (bv a.data.toList - bv b.data.toList)).toArray⟩, .int .i64 0]) ∧ Below w.heap.size w w' :=
  sub_call (withTwo49_60_ok a b w ha hb _ 0 (subF_any _ _ hab (dg_len_bv a ha) (dg_len_bv b hb)))
theorem sub_low (a b : ByteArray) (w : World) (ha : wrT a = 0) (hb : wrT b = 0) (hab : bv a.data.toList < bv b.data.toList) :
    Calls Tryd.prog 19 #[.string a, .string b] w fun e w' => e = .returned (.tuple #[.string ⟨#[]⟩, .int .i64 4]) ∧ Below w.heap.size w w' :=
  sub_call (withTwo49_60_ok a b w ha hb _ 4 (subF_low _ _ hab (dg_len_bv a ha) (dg_len_bv b hb)))
theorem sub_bad (a b : ByteArray) (w : World) (h : wr2 a b ≠ 0) (ha : a.size ≤ 4611686018427387904) (hb : b.size ≤ 4611686018427387904) :
    Calls Tryd.prog 19 #[.string a, .string b] w fun e w' => e = .returned (.tuple #[.string ⟨#[]⟩, .int .i64 (wr2 a b : Int)]) ∧ Below w.heap.size w w' :=
  sub_call (withTwo49_bad 60 a b w h ha hb)
theorem compare_ok (a b : ByteArray) (w : World) (ha : wrT a = 0) (hb : wrT b = 0) :
    Calls Tryd.prog 17 #[.string a, .string b] w fun e w' => e = .returned (.tuple #[.int .i64 (cmp3 (bv a.data.toList : Int) (bv b.data.toList : Int)), .int .i64 0]) ∧ Below w.heap.size w w' :=
  compare_call (withTwo57_58_ok a b w ha hb _ 0 (compareF_any _ _ (dg_len_bv a ha) (dg_len_bv b hb)))
theorem compare_bad (a b : ByteArray) (w : World) (h : wr2 a b ≠ 0) (ha : a.size ≤ 4611686018427387904) (hb : b.size ≤ 4611686018427387904) :
    Calls Tryd.prog 17 #[.string a, .string b] w fun e w' => e = .returned (.tuple #[.int .i64 0, .int .i64 (wr2 a b : Int)]) ∧ Below w.heap.size w w' :=
  compare_call (withTwo57_bad 58 a b w h ha hb)
end Go.Proofs.YtnahindcgedbaaaDoor
