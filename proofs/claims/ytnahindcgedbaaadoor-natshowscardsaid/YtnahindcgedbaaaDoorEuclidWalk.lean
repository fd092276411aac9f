/- The walk of the law NatEuclid. -/
import Derived.Test.YtnahindcgedbaaaDoorDiv
import Derived.Test.YtnahindcgedbaaaDoorRingWalk
set_option linter.unusedSimpArgs false
set_option linter.unusedVariables false
namespace Go.Proofs.YtnahindcgedbaaaDoor
open Go.RowKit Go.Deep Go.PlainAid

theorem div_T (n m : Nat) (h1 : (txt n).length ≤ 4000) (h2 : (txt m).length ≤ 4000) (h0 : m ≠ 0) (W : World) :
    Calls Tryd.prog 23 #[.string (T n), .string (T m)] W fun e w' => e = .returned (.tuple #[.string (T (n / m)), .string (T (n % m)), .int .i64 0]) ∧ Below W.heap.size W w' := by
  have := div_ok (T n) (T m) W (T_wr n h1) (T_wr m h2) (by rw [T_bv]; exact h0)
  rw [T_bv, T_bv] at this
  exact this
theorem gcd_T (n m : Nat) (h1 : (txt n).length ≤ 4000) (h2 : (txt m).length ≤ 4000) (W : World) :
    Calls Tryd.prog 21 #[.string (T n), .string (T m)] W fun e w' => e = .returned (.tuple #[.string (T (Nat.gcd n m)), .int .i64 0]) ∧ Below W.heap.size W w' := by
  have := gcd_ok (T n) (T m) W (T_wr n h1) (T_wr m h2)
  rw [T_bv, T_bv] at this
  exact this
theorem compare_T (n m : Nat) (h1 : (txt n).length ≤ 4000) (h2 : (txt m).length ≤ 4000) (hlt : n < m) (W : World) :
    Calls Tryd.prog 17 #[.string (T n), .string (T m)] W fun e w' => e = .returned (.tuple #[.int .i64 (-1), .int .i64 0]) ∧ Below W.heap.size W w' := by
  have := compare_ok (T n) (T m) W (T_wr n h1) (T_wr m h2)
  rw [T_bv, T_bv, cmp3_lt (by omega)] at this
  exact this
theorem list_inj {a b : ByteArray} (h : a.data.toList = b.data.toList) : a = b := by
  cases a; cases b; simp only [ByteArray.mk.injEq]; exact Array.toList_inj.1 h
theorem T_ne_nil (n : Nat) : T n ≠ ⟨#[]⟩ := by
  intro h
  have h1 := T_list n
  rw [h] at h1
  have h2 := isNum_txt n
  rw [← h1] at h2
  simp [isNum] at h2

/-- What the walk takes. -/
structure Euc (A B C Q R QB G X Y CA CB CG : ByteArray) : Prop where
  d1 : ∀ W, Calls Tryd.prog 23 #[.string A, .string B] W fun e w' => e = .returned (.tuple #[.string Q, .string R, .int .i64 0]) ∧ Below W.heap.size W w'
  p1 : ∀ W, Calls Tryd.prog 46 #[.string Q, .string B] W fun e w' => e = .returned (.string QB) ∧ Below W.heap.size W w'
  s1 : ∀ W, Calls Tryd.prog 45 #[.string QB, .string R] W fun e w' => e = .returned (.string A) ∧ Below W.heap.size W w'
  c1 : ∀ W, Calls Tryd.prog 17 #[.string R, .string B] W fun e w' => e = .returned (.tuple #[.int .i64 (-1), .int .i64 0]) ∧ Below W.heap.size W w'
  g1 : ∀ W, Calls Tryd.prog 21 #[.string A, .string B] W fun e w' => e = .returned (.tuple #[.string G, .int .i64 0]) ∧ Below W.heap.size W w'
  g2 : ∀ W, Calls Tryd.prog 21 #[.string B, .string R] W fun e w' => e = .returned (.tuple #[.string G, .int .i64 0]) ∧ Below W.heap.size W w'
  d2 : ∀ W, Calls Tryd.prog 23 #[.string A, .string G] W fun e w' => e = .returned (.tuple #[.string X, .string ⟨#[48]⟩, .int .i64 0]) ∧ Below W.heap.size W w'
  d3 : ∀ W, Calls Tryd.prog 23 #[.string B, .string G] W fun e w' => e = .returned (.tuple #[.string Y, .string ⟨#[48]⟩, .int .i64 0]) ∧ Below W.heap.size W w'
  p2 : ∀ W, Calls Tryd.prog 46 #[.string C, .string A] W fun e w' => e = .returned (.string CA) ∧ Below W.heap.size W w'
  p3 : ∀ W, Calls Tryd.prog 46 #[.string C, .string B] W fun e w' => e = .returned (.string CB) ∧ Below W.heap.size W w'
  g3 : ∀ W, Calls Tryd.prog 21 #[.string CA, .string CB] W fun e w' => e = .returned (.tuple #[.string CG, .int .i64 0]) ∧ Below W.heap.size W w'
  p4 : ∀ W, Calls Tryd.prog 46 #[.string C, .string G] W fun e w' => e = .returned (.string CG) ∧ Below W.heap.size W w'
  nB : B ≠ ⟨#[48]⟩
  nG : G ≠ ⟨#[]⟩

set_option maxRecDepth 100000 in
set_option maxHeartbeats 4000000 in
theorem natEuclid_small (A B C Q R QB G X Y CA CB CG : ByteArray) (w : World) (E : Euc A B C Q R QB G X Y CA CB CG) (hS : Calls Tryd.prog 44 #[.slice (some ⟨w.heap.size, 0, none⟩) 3 3, .int .i64 1900] (w.alloc (.cells #[.string A, .string B, .string C] 9)) fun e w' => e = .returned (.bool true) ∧ w' = w.alloc (.cells #[.string A, .string B, .string C] 9)) :
    Calls Tryd.prog 8 #[.string A, .string B, .string C] w fun e w' => e = .returned (.bool true) ∧ Below w.heap.size w w' := by
  have Ed1 : Hid (∀ W, Calls Tryd.prog 23 #[.string A, .string B] W fun e w' => e = .returned (.tuple #[.string Q, .string R, .int .i64 0]) ∧ Below W.heap.size W w') := E.d1
  have Ep1 : Hid (∀ W, Calls Tryd.prog 46 #[.string Q, .string B] W fun e w' => e = .returned (.string QB) ∧ Below W.heap.size W w') := E.p1
  have Es1 : Hid (∀ W, Calls Tryd.prog 45 #[.string QB, .string R] W fun e w' => e = .returned (.string A) ∧ Below W.heap.size W w') := E.s1
  have Ec1 : Hid (∀ W, Calls Tryd.prog 17 #[.string R, .string B] W fun e w' => e = .returned (.tuple #[.int .i64 (-1), .int .i64 0]) ∧ Below W.heap.size W w') := E.c1
  have Eg1 : Hid (∀ W, Calls Tryd.prog 21 #[.string A, .string B] W fun e w' => e = .returned (.tuple #[.string G, .int .i64 0]) ∧ Below W.heap.size W w') := E.g1
  have Eg2 : Hid (∀ W, Calls Tryd.prog 21 #[.string B, .string R] W fun e w' => e = .returned (.tuple #[.string G, .int .i64 0]) ∧ Below W.heap.size W w') := E.g2
  have Ed2 : Hid (∀ W, Calls Tryd.prog 23 #[.string A, .string G] W fun e w' => e = .returned (.tuple #[.string X, .string ⟨#[48]⟩, .int .i64 0]) ∧ Below W.heap.size W w') := E.d2
  have Ed3 : Hid (∀ W, Calls Tryd.prog 23 #[.string B, .string G] W fun e w' => e = .returned (.tuple #[.string Y, .string ⟨#[48]⟩, .int .i64 0]) ∧ Below W.heap.size W w') := E.d3
  have Ep2 : Hid (∀ W, Calls Tryd.prog 46 #[.string C, .string A] W fun e w' => e = .returned (.string CA) ∧ Below W.heap.size W w') := E.p2
  have Ep3 : Hid (∀ W, Calls Tryd.prog 46 #[.string C, .string B] W fun e w' => e = .returned (.string CB) ∧ Below W.heap.size W w') := E.p3
  have Eg3 : Hid (∀ W, Calls Tryd.prog 21 #[.string CA, .string CB] W fun e w' => e = .returned (.tuple #[.string CG, .int .i64 0]) ∧ Below W.heap.size W w') := E.g3
  have Ep4 : Hid (∀ W, Calls Tryd.prog 46 #[.string C, .string G] W fun e w' => e = .returned (.string CG) ∧ Below W.heap.size W w') := E.p4
  have nB1 : (B.toList == [48]) = false := beq_eq_false_iff_ne.2 fun h => E.nB (list_inj (by rw [ByteArray.toList_eq] at h; exact h))
  have nB2 : ¬ B.toList = [48] := ne_of_beq_false nB1
  have nG1 : (G.toList == []) = false := beq_eq_false_iff_ne.2 fun h => E.nG (list_inj (by rw [ByteArray.toList_eq] at h; exact h))
  have nG2 : ¬ G.toList = [] := ne_of_beq_false nG1
  clear E
  have HS := hS
  clear hS
  have B0 : Hid (Below w.heap.size w (w.alloc (.cells #[.string A, .string B, .string C] 9))) := (Below.refl _ w).alloc (Nat.le_refl _) _
  go_enter Tryd.func8, Tryd.ntmps8
  go_wp2_with fail
  generalize w.alloc (.cells #[.string A, .string B, .string C] 9) = W0 at *
  refine HS.mono ?_
  rintro e W0 ⟨rfl, rfl⟩
  clear HS
  go_wp2_with fail
  refine (Ed1.out W0).mono ?_
  rintro e W1 ⟨rfl, hb⟩
  have B1 : Hid (Below w.heap.size w W1) := B0.out.trans (hb.mono B0.out.size)
  clear hb B0
  go_wp2_with fail
  refine (Ep1.out W1).mono ?_
  rintro e W2 ⟨rfl, hb⟩
  have B2 : Hid (Below w.heap.size w W2) := B1.out.trans (hb.mono B1.out.size)
  clear hb B1
  go_wp2_with fail
  refine (Es1.out W2).mono ?_
  rintro e W3 ⟨rfl, hb⟩
  have B3 : Hid (Below w.heap.size w W3) := B2.out.trans (hb.mono B2.out.size)
  clear hb B2
  go_wp2_with fail
  refine (Ec1.out W3).mono ?_
  rintro e W4 ⟨rfl, hb⟩
  have B4 : Hid (Below w.heap.size w W4) := B3.out.trans (hb.mono B3.out.size)
  clear hb B3
  go_wp2_with fail
  refine (Eg1.out W4).mono ?_
  rintro e W5 ⟨rfl, hb⟩
  have B5 : Hid (Below w.heap.size w W5) := B4.out.trans (hb.mono B4.out.size)
  clear hb B4
  go_wp2_with fail
  refine (Eg2.out W5).mono ?_
  rintro e W6 ⟨rfl, hb⟩
  have B6 : Hid (Below w.heap.size w W6) := B5.out.trans (hb.mono B5.out.size)
  clear hb B5
  go_wp2_with fail
  refine (Ed2.out W6).mono ?_
  rintro e W7 ⟨rfl, hb⟩
  have B7 : Hid (Below w.heap.size w W7) := B6.out.trans (hb.mono B6.out.size)
  clear hb B6
  go_wp2_with fail
  refine (Ed3.out W7).mono ?_
  rintro e W8 ⟨rfl, hb⟩
  have B8 : Hid (Below w.heap.size w W8) := B7.out.trans (hb.mono B7.out.size)
  clear hb B7
  go_wp2_with fail
  refine (Ep2.out W8).mono ?_
  rintro e W9 ⟨rfl, hb⟩
  have B9 : Hid (Below w.heap.size w W9) := B8.out.trans (hb.mono B8.out.size)
  clear hb B8
  go_wp2_with fail
  refine (Ep3.out W9).mono ?_
  rintro e W10 ⟨rfl, hb⟩
  have B10 : Hid (Below w.heap.size w W10) := B9.out.trans (hb.mono B9.out.size)
  clear hb B9
  go_wp2_with fail
  refine (Eg3.out W10).mono ?_
  rintro e W11 ⟨rfl, hb⟩
  have B11 : Hid (Below w.heap.size w W11) := B10.out.trans (hb.mono B10.out.size)
  clear hb B10
  go_wp2_with fail
  refine (Ep4.out W11).mono ?_
  rintro e W12 ⟨rfl, hb⟩
  have B12 : Hid (Below w.heap.size w W12) := B11.out.trans (hb.mono B11.out.size)
  clear hb B11
  go_wp2_with fail
  go_ret
  exact ⟨by simp, B12.out⟩

set_option maxRecDepth 100000 in
set_option maxHeartbeats 4000000 in
theorem natEuclid_not (A B C : ByteArray) (w : World) (hS : Calls Tryd.prog 44 #[.slice (some ⟨w.heap.size, 0, none⟩) 3 3, .int .i64 1900] (w.alloc (.cells #[.string A, .string B, .string C] 9)) fun e w' => e = .returned (.bool false) ∧ w' = w.alloc (.cells #[.string A, .string B, .string C] 9)) :
    Calls Tryd.prog 8 #[.string A, .string B, .string C] w fun e w' => e = .returned (.bool true) ∧ Below w.heap.size w w' := by
  have HS := hS
  clear hS
  have B0 : Hid (Below w.heap.size w (w.alloc (.cells #[.string A, .string B, .string C] 9))) := (Below.refl _ w).alloc (Nat.le_refl _) _
  go_enter Tryd.func8, Tryd.ntmps8
  go_wp2_with fail
  generalize w.alloc (.cells #[.string A, .string B, .string C] 9) = W0 at *
  refine HS.mono ?_
  rintro e W0 ⟨rfl, rfl⟩
  clear HS
  go_wp2_with fail
  go_ret
  exact ⟨rfl, B0.out⟩

set_option maxRecDepth 100000 in
set_option maxHeartbeats 4000000 in
theorem natEuclid_zero (A C : ByteArray) (w : World) (hS : Calls Tryd.prog 44 #[.slice (some ⟨w.heap.size, 0, none⟩) 3 3, .int .i64 1900] (w.alloc (.cells #[.string A, .string ⟨#[48]⟩, .string C] 9)) fun e w' => e = .returned (.bool true) ∧ w' = w.alloc (.cells #[.string A, .string ⟨#[48]⟩, .string C] 9)) :
    Calls Tryd.prog 8 #[.string A, .string ⟨#[48]⟩, .string C] w fun e w' => e = .returned (.bool true) ∧ Below w.heap.size w w' := by
  have HS := hS
  clear hS
  have B0 : Hid (Below w.heap.size w (w.alloc (.cells #[.string A, .string ⟨#[48]⟩, .string C] 9))) := (Below.refl _ w).alloc (Nat.le_refl _) _
  go_enter Tryd.func8, Tryd.ntmps8
  go_wp2_with fail
  generalize w.alloc (.cells #[.string A, .string ⟨#[48]⟩, .string C] 9) = W0 at *
  refine HS.mono ?_
  rintro e W0 ⟨rfl, rfl⟩
  clear HS
  go_wp2_with fail
  go_ret
  exact ⟨rfl, B0.out⟩

theorem euclid_facts (n m k d : Nat) (hd : d = 1900) (hn : n < 10 ^ d) (hm : m < 10 ^ d) (hk : k < 10 ^ d) (h0 : m ≠ 0) :
    Euc (T n) (T m) (T k) (T (n / m)) (T (n % m)) (T (n / m * m)) (T (Nat.gcd n m)) (T (n / Nat.gcd n m)) (T (m / Nat.gcd n m)) (T (k * n)) (T (k * m)) (T (k * Nat.gcd n m)) := by
  have hp : 0 < m := by omega
  have hg : Nat.gcd n m ≠ 0 := by
    have := Nat.gcd_pos_of_pos_right n hp
    omega
  have gm : Nat.gcd n m < 10 ^ d := Nat.lt_of_le_of_lt (Nat.gcd_le_right n hp) hm
  have qn : n / m < 10 ^ d := Nat.lt_of_le_of_lt (Nat.div_le_self n m) hn
  have rn : n % m < 10 ^ d := Nat.lt_of_le_of_lt (Nat.mod_le n m) hn
  have qm : n / m * m < 10 ^ d := Nat.lt_of_le_of_lt (Nat.div_mul_le_self n m) hn
  have ln := len_of_lt d (by omega) hn (by omega)
  have lm := len_of_lt d (by omega) hm (by omega)
  have lk := len_of_lt d (by omega) hk (by omega)
  have lg := len_of_lt d (by omega) gm (by omega)
  have lq := len_of_lt d (by omega) qn (by omega)
  have lr := len_of_lt d (by omega) rn (by omega)
  have lqm := len_of_lt d (by omega) qm (by omega)
  have lkn := len_of_lt (d + d) (by omega) (pow_mul_lt hk hn) (by omega)
  have lkm := len_of_lt (d + d) (by omega) (pow_mul_lt hk hm) (by omega)
  refine ⟨?_, ?_, ?_, ?_, ?_, ?_, ?_, ?_, ?_, ?_, ?_, ?_, ?_, ?_⟩
  · intro W; exact div_T n m ln lm h0 W
  · intro W; exact lawProduct_any (n / m) m lq lm W
  · intro W; have := lawSum_any (n / m * m) (n % m) lqm lr W; rw [Nat.div_add_mod'] at this; exact this
  · intro W; exact compare_T (n % m) m lr lm (Nat.mod_lt n hp) W
  · intro W; exact gcd_T n m ln lm W
  · intro W; have := gcd_T m (n % m) lm lr W; rw [show Nat.gcd m (n % m) = Nat.gcd n m from by rw [Nat.gcd_comm m (n % m), ← Nat.gcd_rec, Nat.gcd_comm]] at this; exact this
  · intro W; have := div_T n (Nat.gcd n m) ln lg hg W; rw [Nat.mod_eq_zero_of_dvd (Nat.gcd_dvd_left n m)] at this; exact this
  · intro W; have := div_T m (Nat.gcd n m) lm lg hg W; rw [Nat.mod_eq_zero_of_dvd (Nat.gcd_dvd_right n m)] at this; exact this
  · intro W; exact lawProduct_any k n lk ln W
  · intro W; exact lawProduct_any k m lk lm W
  · intro W; have := gcd_T (k * n) (k * m) lkn lkm W; rw [Nat.gcd_mul_left] at this; exact this
  · intro W; exact lawProduct_any k (Nat.gcd n m) lk lg W
  · rw [zeroT]; intro h; exact h0 (T_inj h)
  · exact T_ne_nil _
/-- The law, whatever the texts. -/
theorem natEuclid_walk (a b c : ByteArray) (w : World) (ha : a.size ≤ 4611686018427387904) (hb : b.size ≤ 4611686018427387904) (hc : c.size ≤ 4611686018427387904) :
    Calls Tryd.prog 8 #[.string a, .string b, .string c] w fun e w' => e = .returned (.bool true) ∧ Below w.heap.size w w' := by
  have hS := small_any (w.alloc (.cells #[.string a, .string b, .string c] 9)) (some ⟨w.heap.size, 0, none⟩) 3 1900 [a, b, c] (SRow.new w 9 [a, b, c]) (by omega) (by simp) (by simp [ha, hb, hc])
  cases hq : [a, b, c].all (smallB 1900) with
  | false => rw [hq] at hS; exact natEuclid_not a b c w hS
  | true =>
    obtain ⟨na, sa⟩ := small_one hq (show a ∈ [a, b, c] by simp)
    obtain ⟨nb, sb⟩ := small_one hq (show b ∈ [a, b, c] by simp)
    obtain ⟨nc, sc⟩ := small_one hq (show c ∈ [a, b, c] by simp)
    rw [hq] at hS
    by_cases h0 : bv b.data.toList = 0
    · have hb0 : b = ⟨#[48]⟩ := by rw [zeroT, ← h0]; exact T_of b nb
      subst hb0
      exact natEuclid_zero a c w hS
    · have R := euclid_facts (bv a.data.toList) (bv b.data.toList) (bv c.data.toList) 1900 rfl (T_lt a 1900 na sa) (T_lt b 1900 nb sb) (T_lt c 1900 nc sc) h0
      rw [← T_of a na, ← T_of b nb, ← T_of c nc] at R
      exact natEuclid_small _ _ _ _ _ _ _ _ _ _ _ _ w R hS
end Go.Proofs.YtnahindcgedbaaaDoor
