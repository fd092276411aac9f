/- The walk of the law NatRing. -/
import Derived.Test.YtnahindcgedbaaaDoorHelp
set_option linter.unusedSimpArgs false
set_option linter.unusedVariables false
namespace Go.Proofs.YtnahindcgedbaaaDoor
open Go.RowKit Go.Deep Go.PlainAid

/-- What the walk takes of sums, products and the difference. -/
structure Ring (A B C AB P S BC Q PBC D PAC : ByteArray) : Prop where
  f1 : ∀ W, Calls Tryd.prog 45 #[.string A, .string ⟨#[48]⟩] W fun e w' => e = .returned (.string A) ∧ Below W.heap.size W w'
  f2 : ∀ W, Calls Tryd.prog 46 #[.string A, .string ⟨#[49]⟩] W fun e w' => e = .returned (.string A) ∧ Below W.heap.size W w'
  f3 : ∀ W, Calls Tryd.prog 46 #[.string A, .string ⟨#[48]⟩] W fun e w' => e = .returned (.string ⟨#[48]⟩) ∧ Below W.heap.size W w'
  f4 : ∀ W, Calls Tryd.prog 45 #[.string ⟨#[49]⟩, .string ⟨#[49]⟩] W fun e w' => e = .returned (.string ⟨#[50]⟩) ∧ Below W.heap.size W w'
  g1 : ∀ W, Calls Tryd.prog 45 #[.string A, .string B] W fun e w' => e = .returned (.string AB) ∧ Below W.heap.size W w'
  g3 : ∀ W, Calls Tryd.prog 45 #[.string B, .string A] W fun e w' => e = .returned (.string AB) ∧ Below W.heap.size W w'
  g4 : ∀ W, Calls Tryd.prog 46 #[.string A, .string B] W fun e w' => e = .returned (.string P) ∧ Below W.heap.size W w'
  g5 : ∀ W, Calls Tryd.prog 46 #[.string B, .string A] W fun e w' => e = .returned (.string P) ∧ Below W.heap.size W w'
  k1 : ∀ W, Calls Tryd.prog 45 #[.string AB, .string C] W fun e w' => e = .returned (.string S) ∧ Below W.heap.size W w'
  k2 : ∀ W, Calls Tryd.prog 45 #[.string B, .string C] W fun e w' => e = .returned (.string BC) ∧ Below W.heap.size W w'
  k3 : ∀ W, Calls Tryd.prog 45 #[.string A, .string BC] W fun e w' => e = .returned (.string S) ∧ Below W.heap.size W w'
  k4 : ∀ W, Calls Tryd.prog 46 #[.string P, .string C] W fun e w' => e = .returned (.string Q) ∧ Below W.heap.size W w'
  k5 : ∀ W, Calls Tryd.prog 46 #[.string B, .string C] W fun e w' => e = .returned (.string PBC) ∧ Below W.heap.size W w'
  k6 : ∀ W, Calls Tryd.prog 46 #[.string A, .string PBC] W fun e w' => e = .returned (.string Q) ∧ Below W.heap.size W w'
  k7 : ∀ W, Calls Tryd.prog 46 #[.string A, .string BC] W fun e w' => e = .returned (.string D) ∧ Below W.heap.size W w'
  k8 : ∀ W, Calls Tryd.prog 46 #[.string A, .string C] W fun e w' => e = .returned (.string PAC) ∧ Below W.heap.size W w'
  k9 : ∀ W, Calls Tryd.prog 45 #[.string P, .string PAC] W fun e w' => e = .returned (.string D) ∧ Below W.heap.size W w'
  g2 : ∀ W, Calls Tryd.prog 19 #[.string AB, .string B] W fun e w' => e = .returned (.tuple #[.string A, .int .i64 0]) ∧ Below W.heap.size W w'

set_option maxRecDepth 100000 in
set_option maxHeartbeats 4000000 in
theorem natRing_small (A B C AB P S BC Q PBC D PAC : ByteArray) (w : World) (R : Ring A B C AB P S BC Q PBC D PAC) (hS : Calls Tryd.prog 44 #[.slice (some ⟨w.heap.size, 0, none⟩) 3 3, .int .i64 1300] (w.alloc (.cells #[.string A, .string B, .string C] 9)) fun e w' => e = .returned (.bool true) ∧ w' = w.alloc (.cells #[.string A, .string B, .string C] 9)) :
    Calls Tryd.prog 7 #[.string A, .string B, .string C] w fun e w' => e = .returned (.bool true) ∧ Below w.heap.size w w' := by
  have Rf1 : Hid (∀ W, Calls Tryd.prog 45 #[.string A, .string ⟨#[48]⟩] W fun e w' => e = .returned (.string A) ∧ Below W.heap.size W w') := R.f1
  have Rf2 : Hid (∀ W, Calls Tryd.prog 46 #[.string A, .string ⟨#[49]⟩] W fun e w' => e = .returned (.string A) ∧ Below W.heap.size W w') := R.f2
  have Rf3 : Hid (∀ W, Calls Tryd.prog 46 #[.string A, .string ⟨#[48]⟩] W fun e w' => e = .returned (.string ⟨#[48]⟩) ∧ Below W.heap.size W w') := R.f3
  have Rf4 : Hid (∀ W, Calls Tryd.prog 45 #[.string ⟨#[49]⟩, .string ⟨#[49]⟩] W fun e w' => e = .returned (.string ⟨#[50]⟩) ∧ Below W.heap.size W w') := R.f4
  have Rg1 : Hid (∀ W, Calls Tryd.prog 45 #[.string A, .string B] W fun e w' => e = .returned (.string AB) ∧ Below W.heap.size W w') := R.g1
  have Rg3 : Hid (∀ W, Calls Tryd.prog 45 #[.string B, .string A] W fun e w' => e = .returned (.string AB) ∧ Below W.heap.size W w') := R.g3
  have Rg4 : Hid (∀ W, Calls Tryd.prog 46 #[.string A, .string B] W fun e w' => e = .returned (.string P) ∧ Below W.heap.size W w') := R.g4
  have Rg5 : Hid (∀ W, Calls Tryd.prog 46 #[.string B, .string A] W fun e w' => e = .returned (.string P) ∧ Below W.heap.size W w') := R.g5
  have Rk1 : Hid (∀ W, Calls Tryd.prog 45 #[.string AB, .string C] W fun e w' => e = .returned (.string S) ∧ Below W.heap.size W w') := R.k1
  have Rk2 : Hid (∀ W, Calls Tryd.prog 45 #[.string B, .string C] W fun e w' => e = .returned (.string BC) ∧ Below W.heap.size W w') := R.k2
  have Rk3 : Hid (∀ W, Calls Tryd.prog 45 #[.string A, .string BC] W fun e w' => e = .returned (.string S) ∧ Below W.heap.size W w') := R.k3
  have Rk4 : Hid (∀ W, Calls Tryd.prog 46 #[.string P, .string C] W fun e w' => e = .returned (.string Q) ∧ Below W.heap.size W w') := R.k4
  have Rk5 : Hid (∀ W, Calls Tryd.prog 46 #[.string B, .string C] W fun e w' => e = .returned (.string PBC) ∧ Below W.heap.size W w') := R.k5
  have Rk6 : Hid (∀ W, Calls Tryd.prog 46 #[.string A, .string PBC] W fun e w' => e = .returned (.string Q) ∧ Below W.heap.size W w') := R.k6
  have Rk7 : Hid (∀ W, Calls Tryd.prog 46 #[.string A, .string BC] W fun e w' => e = .returned (.string D) ∧ Below W.heap.size W w') := R.k7
  have Rk8 : Hid (∀ W, Calls Tryd.prog 46 #[.string A, .string C] W fun e w' => e = .returned (.string PAC) ∧ Below W.heap.size W w') := R.k8
  have Rk9 : Hid (∀ W, Calls Tryd.prog 45 #[.string P, .string PAC] W fun e w' => e = .returned (.string D) ∧ Below W.heap.size W w') := R.k9
  have Rg2 : Hid (∀ W, Calls Tryd.prog 19 #[.string AB, .string B] W fun e w' => e = .returned (.tuple #[.string A, .int .i64 0]) ∧ Below W.heap.size W w') := R.g2
  have HS := hS
  clear R hS
  have B0 : Hid (Below w.heap.size w (w.alloc (.cells #[.string A, .string B, .string C] 9))) := (Below.refl _ w).alloc (Nat.le_refl _) _
  go_enter Tryd.func7, Tryd.ntmps7
  go_wp2_with fail
  generalize w.alloc (.cells #[.string A, .string B, .string C] 9) = W0 at *
  refine HS.mono ?_
  rintro e W00 ⟨rfl, rfl⟩
  clear HS
  go_wp2_with fail
  refine (Rf1.out W00).mono ?_
  rintro e W1 ⟨rfl, hb⟩
  have B1 : Hid (Below w.heap.size w W1) := B0.out.trans (hb.mono B0.out.size)
  clear hb B0
  go_wp2_with fail
  refine (Rf2.out W1).mono ?_
  rintro e W2 ⟨rfl, hb⟩
  have B2 : Hid (Below w.heap.size w W2) := B1.out.trans (hb.mono B1.out.size)
  clear hb B1
  go_wp2_with fail
  refine (Rf3.out W2).mono ?_
  rintro e W3 ⟨rfl, hb⟩
  have B3 : Hid (Below w.heap.size w W3) := B2.out.trans (hb.mono B2.out.size)
  clear hb B2
  go_wp2_with fail
  refine (Rf4.out W3).mono ?_
  rintro e W4 ⟨rfl, hb⟩
  have B4 : Hid (Below w.heap.size w W4) := B3.out.trans (hb.mono B3.out.size)
  clear hb B3
  go_wp2_with fail
  refine (Rg1.out W4).mono ?_
  rintro e W5 ⟨rfl, hb⟩
  have B5 : Hid (Below w.heap.size w W5) := B4.out.trans (hb.mono B4.out.size)
  clear hb B4
  go_wp2_with fail
  refine (Rg2.out W5).mono ?_
  rintro e W6 ⟨rfl, hb⟩
  have B6 : Hid (Below w.heap.size w W6) := B5.out.trans (hb.mono B5.out.size)
  clear hb B5
  go_wp2_with fail
  refine (Rg1.out W6).mono ?_
  rintro e W7 ⟨rfl, hb⟩
  have B7 : Hid (Below w.heap.size w W7) := B6.out.trans (hb.mono B6.out.size)
  clear hb B6
  go_wp2_with fail
  refine (Rg3.out W7).mono ?_
  rintro e W8 ⟨rfl, hb⟩
  have B8 : Hid (Below w.heap.size w W8) := B7.out.trans (hb.mono B7.out.size)
  clear hb B7
  go_wp2_with fail
  refine (Rg4.out W8).mono ?_
  rintro e W9 ⟨rfl, hb⟩
  have B9 : Hid (Below w.heap.size w W9) := B8.out.trans (hb.mono B8.out.size)
  clear hb B8
  go_wp2_with fail
  refine (Rg5.out W9).mono ?_
  rintro e W10 ⟨rfl, hb⟩
  have B10 : Hid (Below w.heap.size w W10) := B9.out.trans (hb.mono B9.out.size)
  clear hb B9
  go_wp2_with fail
  refine (Rg1.out W10).mono ?_
  rintro e W11 ⟨rfl, hb⟩
  have B11 : Hid (Below w.heap.size w W11) := B10.out.trans (hb.mono B10.out.size)
  clear hb B10
  go_wp2_with fail
  refine (Rk1.out W11).mono ?_
  rintro e W12 ⟨rfl, hb⟩
  have B12 : Hid (Below w.heap.size w W12) := B11.out.trans (hb.mono B11.out.size)
  clear hb B11
  go_wp2_with fail
  refine (Rk2.out W12).mono ?_
  rintro e W13 ⟨rfl, hb⟩
  have B13 : Hid (Below w.heap.size w W13) := B12.out.trans (hb.mono B12.out.size)
  clear hb B12
  go_wp2_with fail
  refine (Rk3.out W13).mono ?_
  rintro e W14 ⟨rfl, hb⟩
  have B14 : Hid (Below w.heap.size w W14) := B13.out.trans (hb.mono B13.out.size)
  clear hb B13
  go_wp2_with fail
  refine (Rg4.out W14).mono ?_
  rintro e W15 ⟨rfl, hb⟩
  have B15 : Hid (Below w.heap.size w W15) := B14.out.trans (hb.mono B14.out.size)
  clear hb B14
  go_wp2_with fail
  refine (Rk4.out W15).mono ?_
  rintro e W16 ⟨rfl, hb⟩
  have B16 : Hid (Below w.heap.size w W16) := B15.out.trans (hb.mono B15.out.size)
  clear hb B15
  go_wp2_with fail
  refine (Rk5.out W16).mono ?_
  rintro e W17 ⟨rfl, hb⟩
  have B17 : Hid (Below w.heap.size w W17) := B16.out.trans (hb.mono B16.out.size)
  clear hb B16
  go_wp2_with fail
  refine (Rk6.out W17).mono ?_
  rintro e W18 ⟨rfl, hb⟩
  have B18 : Hid (Below w.heap.size w W18) := B17.out.trans (hb.mono B17.out.size)
  clear hb B17
  go_wp2_with fail
  refine (Rk2.out W18).mono ?_
  rintro e W19 ⟨rfl, hb⟩
  have B19 : Hid (Below w.heap.size w W19) := B18.out.trans (hb.mono B18.out.size)
  clear hb B18
  go_wp2_with fail
  refine (Rk7.out W19).mono ?_
  rintro e W20 ⟨rfl, hb⟩
  have B20 : Hid (Below w.heap.size w W20) := B19.out.trans (hb.mono B19.out.size)
  clear hb B19
  go_wp2_with fail
  refine (Rg4.out W20).mono ?_
  rintro e W21 ⟨rfl, hb⟩
  have B21 : Hid (Below w.heap.size w W21) := B20.out.trans (hb.mono B20.out.size)
  clear hb B20
  go_wp2_with fail
  refine (Rk8.out W21).mono ?_
  rintro e W22 ⟨rfl, hb⟩
  have B22 : Hid (Below w.heap.size w W22) := B21.out.trans (hb.mono B21.out.size)
  clear hb B21
  go_wp2_with fail
  refine (Rk9.out W22).mono ?_
  rintro e W23 ⟨rfl, hb⟩
  have B23 : Hid (Below w.heap.size w W23) := B22.out.trans (hb.mono B22.out.size)
  clear hb B22
  go_wp2_with fail
  go_ret
  exact ⟨by simp, B23.out⟩
set_option maxHeartbeats 400000 in
theorem natRing_not (A B C : ByteArray) (w : World) (hS : Calls Tryd.prog 44 #[.slice (some ⟨w.heap.size, 0, none⟩) 3 3, .int .i64 1300] (w.alloc (.cells #[.string A, .string B, .string C] 9)) fun e w' => e = .returned (.bool false) ∧ w' = w.alloc (.cells #[.string A, .string B, .string C] 9)) :
    Calls Tryd.prog 7 #[.string A, .string B, .string C] w fun e w' => e = .returned (.bool true) ∧ Below w.heap.size w w' := by
  have HS := hS
  clear hS
  have B0 : Hid (Below w.heap.size w (w.alloc (.cells #[.string A, .string B, .string C] 9))) := (Below.refl _ w).alloc (Nat.le_refl _) _
  go_enter Tryd.func7, Tryd.ntmps7
  go_wp2_with fail
  generalize w.alloc (.cells #[.string A, .string B, .string C] 9) = W0 at *
  refine HS.mono ?_
  rintro e W00 ⟨rfl, rfl⟩
  clear HS
  go_wp2_with fail
  go_ret
  exact ⟨rfl, B0.out⟩

theorem pow_mul_lt {n m i j : Nat} (h1 : n < 10 ^ i) (h2 : m < 10 ^ j) : n * m < 10 ^ (i + j) := by
  rw [Nat.pow_add]
  calc n * m ≤ n * 10 ^ j := Nat.mul_le_mul_left _ (by omega)
    _ < 10 ^ i * 10 ^ j := Nat.mul_lt_mul_of_pos_right h1 (by omega)
theorem pow_add_lt {n m i : Nat} (h1 : n < 10 ^ i) (h2 : m < 10 ^ i) : n + m < 10 ^ (i + 1) := by
  have : 10 ^ (i + 1) = 10 ^ i * 10 := Nat.pow_succ _ _
  omega
theorem ring_facts (n m k d : Nat) (hd : d = 1300) (hn : n < 10 ^ d) (hm : m < 10 ^ d) (hk : k < 10 ^ d) :
    Ring (T n) (T m) (T k) (T (n + m)) (T (n * m)) (T (n + m + k)) (T (m + k)) (T (n * m * k)) (T (m * k)) (T (n * (m + k))) (T (n * k)) := by
  have ln := len_of_lt d (by omega) hn (by omega)
  have lm := len_of_lt d (by omega) hm (by omega)
  have lk := len_of_lt d (by omega) hk (by omega)
  have l0 : (txt 0).length ≤ 4000 := by rw [txt_length]; simp
  have l1 : (txt 1).length ≤ 4000 := len_of_lt 1 (by omega) (by omega) (by omega)
  have lnm := len_of_lt (d + 1) (by omega) (pow_add_lt hn hm) (by omega)
  have lmk := len_of_lt (d + 1) (by omega) (pow_add_lt hm hk) (by omega)
  have pnm := len_of_lt (d + d) (by omega) (pow_mul_lt hn hm) (by omega)
  have pmk := len_of_lt (d + d) (by omega) (pow_mul_lt hm hk) (by omega)
  have pnk := len_of_lt (d + d) (by omega) (pow_mul_lt hn hk) (by omega)
  refine ⟨?_, ?_, ?_, ?_, ?_, ?_, ?_, ?_, ?_, ?_, ?_, ?_, ?_, ?_, ?_, ?_, ?_, ?_⟩
  · intro W; have := lawSum_any n 0 ln l0 W; rw [Nat.add_zero] at this; exact this
  · intro W; have := lawProduct_any n 1 ln l1 W; rw [Nat.mul_one] at this; rw [oneT]; exact this
  · intro W; have := lawProduct_any n 0 ln l0 W; rw [Nat.mul_zero] at this; exact this
  · intro W; have := lawSum_any 1 1 l1 l1 W; rw [oneT, twoT]; exact this
  · intro W; exact lawSum_any n m ln lm W
  · intro W; have := lawSum_any m n lm ln W; rw [Nat.add_comm] at this; exact this
  · intro W; exact lawProduct_any n m ln lm W
  · intro W; have := lawProduct_any m n lm ln W; rw [Nat.mul_comm] at this; exact this
  · intro W; exact lawSum_any (n + m) k lnm lk W
  · intro W; exact lawSum_any m k lm lk W
  · intro W; have := lawSum_any n (m + k) ln lmk W; rw [← Nat.add_assoc] at this; exact this
  · intro W; exact lawProduct_any (n * m) k pnm lk W
  · intro W; exact lawProduct_any m k lm lk W
  · intro W; have := lawProduct_any n (m * k) ln pmk W; rw [← Nat.mul_assoc] at this; exact this
  · intro W; exact lawProduct_any n (m + k) ln lmk W
  · intro W; exact lawProduct_any n k ln lk W
  · intro W; have := lawSum_any (n * m) (n * k) pnm pnk W; rw [← Nat.mul_add] at this; exact this
  · intro W; have := sub_T (n + m) m lnm lm (by omega) W; rw [Nat.add_sub_cancel] at this; exact this
/-- The law, whatever the texts. -/
theorem natRing_walk (a b c : ByteArray) (w : World) (ha : a.size ≤ 4611686018427387904) (hb : b.size ≤ 4611686018427387904) (hc : c.size ≤ 4611686018427387904) :
    Calls Tryd.prog 7 #[.string a, .string b, .string c] w fun e w' => e = .returned (.bool true) ∧ Below w.heap.size w w' := by
  have hS := small_any (w.alloc (.cells #[.string a, .string b, .string c] 9)) (some ⟨w.heap.size, 0, none⟩) 3 1300 [a, b, c] (SRow.new w 9 [a, b, c]) (by omega) (by simp) (by simp [ha, hb, hc])
  cases hq : [a, b, c].all (smallB 1300) with
  | false => rw [hq] at hS; exact natRing_not a b c w hS
  | true =>
    obtain ⟨na, sa⟩ := small_one hq (show a ∈ [a, b, c] by simp)
    obtain ⟨nb, sb⟩ := small_one hq (show b ∈ [a, b, c] by simp)
    obtain ⟨nc, sc⟩ := small_one hq (show c ∈ [a, b, c] by simp)
    rw [hq] at hS
    have R := ring_facts (bv a.data.toList) (bv b.data.toList) (bv c.data.toList) 1300 rfl (T_lt a 1300 na sa) (T_lt b 1300 nb sb) (T_lt c 1300 nc sc)
    rw [← T_of a na, ← T_of b nb, ← T_of c nc] at R
    exact natRing_small a b c _ _ _ _ _ _ _ _ w R hS
end Go.Proofs.YtnahindcgedbaaaDoor
