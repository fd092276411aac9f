/- Scalars as texts: what the faces answer of them. -/
import Derived.Test.YtckfdpiohkggaabKindsX
import Derived.Test.YtckfdpiohkggaabTx
import Derived.Test.YtckfdpiohkggaabPrime
import Derived.Test.YtckfdpiohkggaabFieldW
set_option linter.unusedSimpArgs false
set_option linter.unusedVariables false
namespace Go.Proofs.Ytckfdpiohkggaab
open Go.RowKit Go.Deep Go.PlainAid

set_option maxRecDepth 100000 in
set_option maxHeartbeats 1000000 in
theorem help9 {w : World} {z c : Int} {x y t : ByteArray} (C : Hid (Calls Try.prog 18 #[.int .i64 z, .string x, .string y] w fun e w' => e = .returned (.tuple #[.string t, .int .i64 c]) ∧ Below w.heap.size w w')) :
    Calls Try.prog 9 #[.int .i64 z, .string x, .string y] w fun e w' => e = .returned (.string t) ∧ Below w.heap.size w w' := by
  go_enter Try.func9, Try.ntmps9
  go_wp2_with fail
  refine C.out.mono ?_
  rintro e V1 ⟨rfl, hb⟩
  have B : Hid (Below w.heap.size w V1) := hb
  clear hb
  go_wp2_with fail
  go_ret
  exact ⟨rfl, B.out⟩
set_option maxRecDepth 100000 in
set_option maxHeartbeats 1000000 in
theorem help10 {w : World} {z c : Int} {x y t : ByteArray} (C : Hid (Calls Try.prog 19 #[.int .i64 z, .string x, .string y] w fun e w' => e = .returned (.tuple #[.string t, .int .i64 c]) ∧ Below w.heap.size w w')) :
    Calls Try.prog 10 #[.int .i64 z, .string x, .string y] w fun e w' => e = .returned (.string t) ∧ Below w.heap.size w w' := by
  go_enter Try.func10, Try.ntmps10
  go_wp2_with fail
  refine C.out.mono ?_
  rintro e V1 ⟨rfl, hb⟩
  have B : Hid (Below w.heap.size w V1) := hb
  clear hb
  go_wp2_with fail
  go_ret
  exact ⟨rfl, B.out⟩
section
variable {z : Int} {G : Array Value} {S Wd M low one sq Ri Wd2 M2 low2 one2 sq2 Ri2 : Nat}
theorem scal_call (k : KD z G S Wd M low one sq Ri Wd2 M2 low2 one2 sq2 Ri2) (w : World) (s : ByteArray) : Calls Try.prog 6 #[.int .i64 z, .string s] w fun e w' => e = .returned (.bool (isSc S M s)) ∧ Below w.heap.size w w' :=
  scalar_face (c := if isSc S M s then 0 else 6) (by cases isSc S M s <;> rfl) (fun W cp hc => on57_58 hc k.hG k.hi k.h1 k.CG (fun W g hI hc => clos58 hc (fun W' hb => scalarA ((k.gh W g hI).of_below hb) s k.hS k.big)))
theorem num_call (k : KD z G S Wd M low one sq Ri Wd2 M2 low2 one2 sq2 Ri2) (w : World) (n : Int) (n1 : -9223372036854775808 ≤ n) (n2 : n ≤ 9223372036854775807) : Calls Try.prog 8 #[.int .i64 z, .int .i64 n] w fun e w' => e = .returned (.tuple #[.string (TX S (numF M n)), .int .i64 0]) ∧ Below w.heap.size w w' :=
  number_face (fun W cp hc => on48_52 hc k.hG k.hi k.h1 k.CG (fun W g hI hc => clos52 hc (fun W' hb => fnumberA ((k.gh W g hI).of_below hb).fs k.fl n n1 n2) (fun W' hb => toldA ((k.gh W g hI).of_below hb).c k.hS (Nat.lt_trans (numF_lt k.m2) k.big))))
theorem size_call (k : KD z G S Wd M low one sq Ri Wd2 M2 low2 one2 sq2 Ri2) (w : World) : Calls Try.prog 7 #[.int .i64 z] w fun e w' => e = .returned (.tuple #[.int .i64 (S : Int), .int .i64 (S : Int), .int .i64 0]) ∧ Below w.heap.size w w' :=
  sizes_call (on46_ok k.hG k.hi k.h1 k.CG (fun W g h => sizes_any (k.gh W g h).c))
theorem numF_nat {M k : Nat} (h : k < M) : numF M (k : Int) = k := by
  unfold numF
  rw [if_neg (by omega), Int.toNat_natCast, Nat.mod_eq_of_lt h]
theorem zero_call (k : KD z G S Wd M low one sq Ri Wd2 M2 low2 one2 sq2 Ri2) (w : World) : Calls Try.prog 8 #[.int .i64 z, .int .i64 0] w fun e w' => e = .returned (.tuple #[.string (TX S 0), .int .i64 0]) ∧ Below w.heap.size w w' := by
  have q := num_call k w 0 (by omega) (by omega)
  rw [show (0 : Int) = ((0 : Nat) : Int) from rfl, numF_nat (by have := k.m2; omega)] at q
  exact q
theorem one_call (k : KD z G S Wd M low one sq Ri Wd2 M2 low2 one2 sq2 Ri2) (w : World) : Calls Try.prog 8 #[.int .i64 z, .int .i64 1] w fun e w' => e = .returned (.tuple #[.string (TX S 1), .int .i64 0]) ∧ Below w.heap.size w w' := by
  have q := num_call k w 1 (by omega) (by omega)
  rw [show (1 : Int) = ((1 : Nat) : Int) from rfl, numF_nat (by have := k.m2; omega)] at q
  exact q
theorem KD.sc (k : KD z G S Wd M low one sq Ri Wd2 M2 low2 one2 sq2 Ri2) {n : Nat} (h : n < M) : isSc S M (TX S n) = true := isSc_TX h k.sz
theorem KD.nu (k : KD z G S Wd M low one sq Ri Wd2 M2 low2 one2 sq2 Ri2) {n : Nat} (h : n < M) : numS (TX S n) = n := numS_TX (Nat.lt_of_lt_of_le h k.sz)
theorem AD (k : KD z G S Wd M low one sq Ri Wd2 M2 low2 one2 sq2 Ri2) (w : World) {m n : Nat} (hm : m < M) (hn : n < M) : Calls Try.prog 9 #[.int .i64 z, .string (TX S m), .string (TX S n)] w fun e w' => e = .returned (.string (TX S ((m + n) % M))) ∧ Below w.heap.size w w' := by
  have q := add_yes k w (k.sc hm) (k.sc hn)
  rw [k.nu hm, k.nu hn] at q
  exact help9 q
theorem MU (k : KD z G S Wd M low one sq Ri Wd2 M2 low2 one2 sq2 Ri2) (w : World) {m n : Nat} (hm : m < M) (hn : n < M) : Calls Try.prog 10 #[.int .i64 z, .string (TX S m), .string (TX S n)] w fun e w' => e = .returned (.string (TX S (m * n % M))) ∧ Below w.heap.size w w' := by
  have q := mul_yes k w (k.sc hm) (k.sc hn)
  rw [k.nu hm, k.nu hn] at q
  exact help10 q
theorem SU (k : KD z G S Wd M low one sq Ri Wd2 M2 low2 one2 sq2 Ri2) (w : World) {m n : Nat} (hm : m < M) (hn : n < M) : Calls Try.prog 11 #[.int .i64 z, .string (TX S m), .string (TX S n)] w fun e w' => e = .returned (.tuple #[.string (TX S ((m + M - n) % M)), .int .i64 0]) ∧ Below w.heap.size w w' := by
  have q := sub_yes k w (k.sc hm) (k.sc hn)
  rw [k.nu hm, k.nu hn] at q
  exact q
theorem IV (k : KD z G S Wd M low one sq Ri Wd2 M2 low2 one2 sq2 Ri2) (w : World) {m : Nat} (hm : m < M) (h0 : m ≠ 0) : Calls Try.prog 12 #[.int .i64 z, .string (TX S m)] w fun e w' => e = .returned (.tuple #[.string (TX S (m ^ (M - 2) % M)), .int .i64 0]) ∧ Below w.heap.size w w' := by
  have q := inv_yes k w (k.sc hm) (by rw [k.nu hm]; exact h0)
  rw [k.nu hm] at q
  exact q
theorem IV0 (k : KD z G S Wd M low one sq Ri Wd2 M2 low2 one2 sq2 Ri2) (w : World) : Calls Try.prog 12 #[.int .i64 z, .string (TX S 0)] w fun e w' => e = .returned (.tuple #[.string ⟨#[]⟩, .int .i64 5]) ∧ Below w.heap.size w w' :=
  inv_null k w (k.sc (by have := k.m2; omega)) (k.nu (by have := k.m2; omega))
theorem as_TX {S M : Nat} {a : ByteArray} (h : isSc S M a = true) : ∃ A, A < M ∧ a = TX S A := ⟨numS a, isSc_lt h, (TX_numS (isSc_size h)).symm⟩
theorem back_sub {M A B : Nat} (ha : A < M) (hb : B < M) : ((A + B) % M + M - B) % M = A := by
  rcases Nat.lt_or_ge (A + B) M with h | h
  · rw [Nat.mod_eq_of_lt h, show A + B + M - B = A + M by omega, Nat.add_mod_right, Nat.mod_eq_of_lt ha]
  · have e : (A + B) % M = A + B - M := by
      rw [show A + B = (A + B - M) + M by omega, Nat.add_mod_right, Nat.mod_eq_of_lt (by omega)]
      omega
    rw [e, show A + B - M + M - B = A by omega, Nat.mod_eq_of_lt ha]
theorem inv_one {M A : Nat} (hp : IsP M) (ha : A < M) (h0 : A ≠ 0) : A * (A ^ (M - 2) % M) % M = 1 := by
  have h2 := hp.1
  rw [Nat.mul_mod_mod, Nat.mul_comm, ← Nat.pow_succ, show (M - 2).succ = M - 1 by omega]
  exact hp.fermat1 (hp.not_dvd_lt (by omega) ha)
theorem TX_some {S n : Nat} (h : 0 < S) : (TX S n).toList.isEmpty = false := by
  have e : (TX S n).toList = beB S n := by rw [ByteArray.toList_eq]; rfl
  have hl := beB_length n S
  rw [e]
  cases hb : beB S n with
  | nil => rw [hb] at hl; simp at hl; omega
  | cons x r => rfl
theorem field_kind (k : KD z G S Wd M low one sq Ri Wd2 M2 low2 one2 sq2 Ri2) (hp : IsP M) (w : World) (a b c : ByteArray) (hS1 : 0 < S) :
    Calls Try.prog 3 #[.int .i64 z, .string a, .string b, .string c] w fun e w' => e = .returned (.bool true) ∧ Below w.heap.size w w' := by
  have hm := k.m2
  have SCx : ∀ t s, isSc S M s = t → ∀ W, Calls Try.prog 6 #[.int .i64 z, .string s] W fun e w' => e = .returned (.bool t) ∧ Below W.heap.size W w' := fun t s h W => by have q := scal_call k W s; rw [h] at q; exact q
  have Sz := SCx true (TX S 0) (k.sc (by omega))
  have hz : ((TX S 0).size : Int) = (S : Int) := by rw [size_TX]
  cases ha : isSc S M a
  · exact field_bad_a (SCx _ a ha) (fun W => size_call k W) (fun W => zero_call k W) (by omega) hz Sz
  cases hb : isSc S M b
  · exact field_bad_b (SCx _ a ha) (SCx _ b hb) (fun W => size_call k W) (fun W => zero_call k W) (by omega) hz Sz
  cases hc : isSc S M c
  · exact field_bad_c (SCx _ a ha) (SCx _ b hb) (SCx _ c hc) (fun W => size_call k W) (fun W => zero_call k W) (by omega) hz Sz
  have Sa := SCx _ a ha
  have Sb := SCx _ b hb
  have Sc := SCx _ c hc
  obtain ⟨A, A9, rfl⟩ := as_TX ha
  obtain ⟨B, B9, rfl⟩ := as_TX hb
  obtain ⟨C, C9, rfl⟩ := as_TX hc
  have ml : ∀ x, x % M < M := fun x => Nat.mod_lt _ (by omega)
  have K1 := fun W => AD k W A9 B9
  have K2 : ∀ W, Calls Try.prog 9 #[.int .i64 z, .string (TX S B), .string (TX S A)] W fun e w' => e = .returned (.string (TX S ((A + B) % M))) ∧ Below W.heap.size W w' := fun W => by have q := AD k W B9 A9; rw [Nat.add_comm B A] at q; exact q
  have K3 := fun W => MU k W A9 B9
  have K4 : ∀ W, Calls Try.prog 10 #[.int .i64 z, .string (TX S B), .string (TX S A)] W fun e w' => e = .returned (.string (TX S (A * B % M))) ∧ Below W.heap.size W w' := fun W => by have q := MU k W B9 A9; rw [Nat.mul_comm B A] at q; exact q
  have K5 : ∀ W, Calls Try.prog 9 #[.int .i64 z, .string (TX S ((A + B) % M)), .string (TX S C)] W fun e w' => e = .returned (.string (TX S ((A + B + C) % M))) ∧ Below W.heap.size W w' := fun W => by have q := AD k W (ml (A + B)) C9; rw [Nat.mod_add_mod] at q; exact q
  have K6 := fun W => AD k W B9 C9
  have K7 : ∀ W, Calls Try.prog 9 #[.int .i64 z, .string (TX S A), .string (TX S ((B + C) % M))] W fun e w' => e = .returned (.string (TX S ((A + B + C) % M))) ∧ Below W.heap.size W w' := fun W => by have q := AD k W A9 (ml (B + C)); rw [Nat.add_mod_mod, ← Nat.add_assoc] at q; exact q
  have K8 : ∀ W, Calls Try.prog 10 #[.int .i64 z, .string (TX S (A * B % M)), .string (TX S C)] W fun e w' => e = .returned (.string (TX S (A * B * C % M))) ∧ Below W.heap.size W w' := fun W => by have q := MU k W (ml (A * B)) C9; rw [Nat.mod_mul_mod] at q; exact q
  have K9 := fun W => MU k W B9 C9
  have K10 : ∀ W, Calls Try.prog 10 #[.int .i64 z, .string (TX S A), .string (TX S (B * C % M))] W fun e w' => e = .returned (.string (TX S (A * B * C % M))) ∧ Below W.heap.size W w' := fun W => by have q := MU k W A9 (ml (B * C)); rw [Nat.mul_mod_mod, ← Nat.mul_assoc] at q; exact q
  have K11 : ∀ W, Calls Try.prog 10 #[.int .i64 z, .string (TX S A), .string (TX S ((B + C) % M))] W fun e w' => e = .returned (.string (TX S ((A * B + A * C) % M))) ∧ Below W.heap.size W w' := fun W => by have q := MU k W A9 (ml (B + C)); rw [Nat.mul_mod_mod, Nat.mul_add] at q; exact q
  have K12 := fun W => MU k W A9 C9
  have K13 : ∀ W, Calls Try.prog 9 #[.int .i64 z, .string (TX S (A * B % M)), .string (TX S (A * C % M))] W fun e w' => e = .returned (.string (TX S ((A * B + A * C) % M))) ∧ Below W.heap.size W w' := fun W => by have q := AD k W (ml (A * B)) (ml (A * C)); rw [← Nat.add_mod] at q; exact q
  have K14 : ∀ W, Calls Try.prog 11 #[.int .i64 z, .string (TX S ((A + B) % M)), .string (TX S B)] W fun e w' => e = .returned (.tuple #[.string (TX S A), .int .i64 0]) ∧ Below W.heap.size W w' := fun W => by have q := SU k W (ml (A + B)) B9; rw [back_sub A9 B9] at q; exact q
  by_cases h0 : A = 0
  · subst h0
    exact field_zero (S := S) Sa Sb Sc K1 K2 K3 K4 K5 K6 K7 K8 K9 K10 K11 K12 K13 K14 (fun W => one_call k W) (fun W => IV0 k W) (fun W => zero_call k W)
  · have K15 : ∀ W, Calls Try.prog 10 #[.int .i64 z, .string (TX S A), .string (TX S (A ^ (M - 2) % M))] W fun e w' => e = .returned (.string (TX S 1)) ∧ Below W.heap.size W w' := fun W => by have q := MU k W A9 (ml (A ^ (M - 2))); rw [inv_one hp A9 h0] at q; exact q
    refine field_ok (S := S) Sa Sb Sc K1 K2 K3 K4 K5 K6 K7 K8 K9 K10 K11 K12 K13 K14 (fun W => one_call k W) (fun W => IV k W A9 h0) K15 ?_
    exact TX_some hS1
end
theorem groupField_walk (z : Int) (a b c : ByteArray) (w : World) : Calls Try.prog 3 #[.int .i64 z, .string a, .string b, .string c] w fun e w' => e = .returned (.bool true) ∧ Below w.heap.size w w' := by
  by_cases z1 : z = 1
  · subst z1; exact field_kind kd1 prime_q1 w a b c (by omega)
  by_cases z2 : z = 2
  · subst z2; exact field_kind kd2 prime_q2 w a b c (by omega)
  by_cases z3 : z = 3
  · subst z3; exact field_kind kd3 prime_q3 w a b c (by omega)
  have G := fun W => ground0 W z (beq_eq_false_iff_ne.2 z1) (beq_eq_false_iff_ne.2 z2) (beq_eq_false_iff_ne.2 z3)
  exact field_none (S := 0) (fun W => scalar_face (c := 1) (z0 := 0) (z1 := 0) (z2 := 0) (z3 := 0) rfl (fun W cp hc => on57_no hc rfl size70 (by kernel_rfl) G)) (fun W => sizes_call (on46_no 27 rfl size70 (by kernel_rfl) G)) (fun W => number_face (fun W cp hc => on48c_no hc rfl size70 (by kernel_rfl) G))
end Go.Proofs.Ytckfdpiohkggaab
