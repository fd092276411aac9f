/- Elements as texts: THE GROUP LAW. -/
import Derived.Test.YtckfdpiohkggaabFieldAll
import Derived.Test.YtckfdpiohkggaabProdFX
import Derived.Test.YtckfdpiohkggaabGlawW
set_option linter.unusedSimpArgs false
set_option linter.unusedVariables false
namespace Go.Proofs.Ytckfdpiohkggaab
open Go.RowKit Go.Deep Go.PlainAid

set_option maxRecDepth 100000 in
set_option maxHeartbeats 1000000 in
theorem help15 {w : World} {z c : Int} {x y t : ByteArray} (C : Hid (Calls Try.prog 21 #[.int .i64 z, .string x, .string y] w fun e w' => e = .returned (.tuple #[.string t, .int .i64 c]) ∧ Below w.heap.size w w')) :
    Calls Try.prog 15 #[.int .i64 z, .string x, .string y] w fun e w' => e = .returned (.string t) ∧ Below w.heap.size w w' := by
  go_enter Try.func15, Try.ntmps15
  go_wp2_with fail
  refine C.out.mono ?_
  rintro e V1 ⟨rfl, hb⟩
  have B : Hid (Below w.heap.size w V1) := hb
  clear hb
  go_wp2_with fail
  go_ret
  exact ⟨rfl, B.out⟩
set_option maxRecDepth 100000 in
set_option maxHeartbeats 1000000 in
theorem help17 {w : World} {z c : Int} {x y t : ByteArray} (C : Hid (Calls Try.prog 40 #[.int .i64 z, .string x, .string y] w fun e w' => e = .returned (.tuple #[.string t, .int .i64 c]) ∧ Below w.heap.size w w')) :
    Calls Try.prog 17 #[.int .i64 z, .string x, .string y] w fun e w' => e = .returned (.string t) ∧ Below w.heap.size w w' := by
  go_enter Try.func17, Try.ntmps17
  go_wp2_with fail
  refine C.out.mono ?_
  rintro e V1 ⟨rfl, hb⟩
  have B : Hid (Below w.heap.size w V1) := hb
  clear hb
  go_wp2_with fail
  go_ret
  exact ⟨rfl, B.out⟩
section
variable {z : Int} {G : Array Value} {S Wd M low one sq Ri Wd2 M2 low2 one2 sq2 Ri2 : Nat}
theorem memb_call (k : KD z G S Wd M low one sq Ri Wd2 M2 low2 one2 sq2 Ri2) (w : World) (s : ByteArray) : Calls Try.prog 14 #[.int .i64 z, .string s] w fun e w' => e = .returned (.bool (isEl S M s)) ∧ Below w.heap.size w w' :=
  member_face (c := if isEl S M s then 0 else 7) (by cases isEl S M s <;> rfl) (fun W cp hc => on57_60 hc k.hG k.hi k.h1 k.CG (fun W g hI hc => clos60 hc (fun W' hb => elemA ((k.gh W g hI).of_below hb) s k.hS k.big)))
theorem bas_call (k : KD z G S Wd M low one sq Ri Wd2 M2 low2 one2 sq2 Ri2) (w : World) : Calls Try.prog 13 #[.int .i64 z] w fun e w' => e = .returned (.tuple #[.string (TX S 2), .int .i64 0]) ∧ Below w.heap.size w w' :=
  base_call (on48_51 k.hG k.hi k.h1 k.CG (fun W g h => base_any (k.gh W g h).c k.hS))
theorem last_call (k : KD z G S Wd M low one sq Ri Wd2 M2 low2 one2 sq2 Ri2) (w : World) : Calls Try.prog 8 #[.int .i64 z, .int .i64 (-1)] w fun e w' => e = .returned (.tuple #[.string (TX S (M - 1)), .int .i64 0]) ∧ Below w.heap.size w w' := by
  have q := num_call k w (-1) (by omega) (by omega)
  have hm := k.m2
  have e : numF M (-1) = M - 1 := by
    unfold numF
    rw [if_pos (by omega), show (-(-1 : Int)).toNat = 1 from rfl, Nat.mod_eq_of_lt (show 1 < M by omega)]
    unfold subF
    rw [if_pos (by omega)]
    omega
  rw [e] at q
  exact q
theorem KD.e2 (k : KD z G S Wd M low one sq Ri Wd2 M2 low2 one2 sq2 Ri2) {n : Nat} (h : n ≤ M) : n < M2 := by have := k.m21; omega
theorem KD.ee (k : KD z G S Wd M low one sq Ri Wd2 M2 low2 one2 sq2 Ri2) (hs : M < 256 ^ S) {n : Nat} (h0 : n ≠ 0) (h : n ≤ M) : isEl S M (TX S n) = true := decide_eq_true ⟨size_TX S n, by rw [numS_TX (Nat.lt_of_le_of_lt h hs)]; exact h0, by rw [numS_TX (Nat.lt_of_le_of_lt h hs)]; exact h⟩
theorem KD.en (k : KD z G S Wd M low one sq Ri Wd2 M2 low2 one2 sq2 Ri2) (hs : M < 256 ^ S) {n : Nat} (h : n ≤ M) : numS (TX S n) = n := numS_TX (Nat.lt_of_le_of_lt h hs)
theorem TI (k : KD z G S Wd M low one sq Ri Wd2 M2 low2 one2 sq2 Ri2) (hs : M < 256 ^ S) (w : World) {m n : Nat} (m0 : m ≠ 0) (hm : m ≤ M) (n0 : n ≠ 0) (hn : n ≤ M) : Calls Try.prog 17 #[.int .i64 z, .string (TX S m), .string (TX S n)] w fun e w' => e = .returned (.string (TX S (sgn M M2 (m * n % M2)))) ∧ Below w.heap.size w w' := by
  have q := times_yes k w (k.ee hs m0 hm) (k.ee hs n0 hn)
  rw [k.en hs hm, k.en hs hn] at q
  exact help17 q
theorem PO (k : KD z G S Wd M low one sq Ri Wd2 M2 low2 one2 sq2 Ri2) (hs : M < 256 ^ S) (w : World) {m n : Nat} (m0 : m ≠ 0) (hm : m ≤ M) (hn : n < M) : Calls Try.prog 15 #[.int .i64 z, .string (TX S m), .string (TX S n)] w fun e w' => e = .returned (.string (TX S (sgn M M2 (m ^ n % M2)))) ∧ Below w.heap.size w w' := by
  have q := power_yes k w (k.ee hs m0 hm) (k.sc hn)
  rw [k.en hs hm, k.nu hn] at q
  exact help15 q
theorem UN (k : KD z G S Wd M low one sq Ri Wd2 M2 low2 one2 sq2 Ri2) (hs : M < 256 ^ S) (w : World) {m : Nat} (m0 : m ≠ 0) (hm : m ≤ M) : Calls Try.prog 16 #[.int .i64 z, .string (TX S m)] w fun e w' => e = .returned (.tuple #[.string (TX S (sgn M M2 (m ^ (M2 - 2) % M2))), .int .i64 0]) ∧ Below w.heap.size w w' := by
  have q := under_yes k w (k.ee hs m0 hm)
  rw [k.en hs hm] at q
  exact q
theorem as_EX {S M : Nat} {a : ByteArray} (h : isEl S M a = true) : ∃ A, A ≠ 0 ∧ A ≤ M ∧ a = TX S A := ⟨numS a, isEl_pos h, isEl_le h, (TX_numS (isEl_size h)).symm⟩
theorem SAt.two {W : World} {b : Nat} {x y : ByteArray} (h : IHolds W b 9 [.string x, .string y]) : SAt W (some ⟨b, 0, none⟩) [x, y] := by
  intro i hi
  refine ⟨b, 0, rfl, ?_⟩
  match i, hi with
  | 0, _ => exact h.cell 0 (by simp)
  | 1, _ => exact h.cell 1 (by simp)
theorem law_kind (k : KD z G S Wd M low one sq Ri Wd2 M2 low2 one2 sq2 Ri2) (hp : IsP M2) (hs : M < 256 ^ S) (w : World) (a b c m n : ByteArray) :
    Calls Try.prog 4 #[.int .i64 z, .string a, .string b, .string c, .string m, .string n] w fun e w' => e = .returned (.bool true) ∧ Below w.heap.size w w' := by
  have hm := k.m2
  have e2 := k.m21
  have M1 : 1 ≤ M := by omega
  have SCx : ∀ t s, isSc S M s = t → ∀ W, Calls Try.prog 6 #[.int .i64 z, .string s] W fun e w' => e = .returned (.bool t) ∧ Below W.heap.size W w' := fun t s h W => by have q := scal_call k W s; rw [h] at q; exact q
  have MBx : ∀ t s, isEl S M s = t → ∀ W, Calls Try.prog 14 #[.int .i64 z, .string s] W fun e w' => e = .returned (.bool t) ∧ Below W.heap.size W w' := fun t s h W => by have q := memb_call k W s; rw [h] at q; exact q
  have BA := fun W => bas_call k W
  have Mb := MBx true (TX S 2) (k.ee hs (by omega) hm)
  cases ha : isEl S M a
  · exact glaw_bad0 BA Mb (MBx _ a ha)
  cases hb : isEl S M b
  · exact glaw_bad1 BA Mb (MBx _ a ha) (MBx _ b hb)
  cases hc : isEl S M c
  · exact glaw_bad2 BA Mb (MBx _ a ha) (MBx _ b hb) (MBx _ c hc)
  cases hx : isSc S M m
  · exact glaw_bad3 BA Mb (MBx _ a ha) (MBx _ b hb) (MBx _ c hc) (SCx _ m hx)
  cases hy : isSc S M n
  · exact glaw_bad4 BA Mb (MBx _ a ha) (MBx _ b hb) (MBx _ c hc) (SCx _ m hx) (SCx _ n hy)
  have Ma := MBx _ a ha
  have Mbb := MBx _ b hb
  have Mc := MBx _ c hc
  have Sm := SCx _ m hx
  have Sn := SCx _ n hy
  obtain ⟨A, A0, A9, rfl⟩ := as_EX ha
  obtain ⟨B, B0, B9, rfl⟩ := as_EX hb
  obtain ⟨C, C0, C9, rfl⟩ := as_EX hc
  obtain ⟨X, X9, rfl⟩ := as_TX hx
  obtain ⟨Y, Y9, rfl⟩ := as_TX hy
  have Ap := k.e2 A9
  have Bp := k.e2 B9
  have Cp := k.e2 C9
  have nA : ¬ M2 ∣ A := hp.not_dvd_lt (by omega) Ap
  have nB : ¬ M2 ∣ B := hp.not_dvd_lt (by omega) Bp
  have nC : ¬ M2 ∣ C := hp.not_dvd_lt (by omega) Cp
  have ml : ∀ x, x % M2 < M2 := fun x => Nat.mod_lt _ (by omega)
  have mq : ∀ x, x % M < M := fun x => Nat.mod_lt _ (by omega)
  have sl : ∀ x, sgn M M2 (x % M2) ≤ M := fun x => sgn_le e2 (ml x)
  have sp : ∀ x, ¬ M2 ∣ x → sgn M M2 (x % M2) ≠ 0 := fun x h => sgn_pos e2 (fun q => h (Nat.dvd_of_mod_eq_zero q)) (ml x)
  have nP : ∀ x t, ¬ M2 ∣ x → ¬ M2 ∣ x ^ t := fun x t h => hp.not_dvd_pow h t
  have nM : ∀ x y, ¬ M2 ∣ x → ¬ M2 ∣ y → ¬ M2 ∣ x * y := fun x y h1 h2 h => by
    rcases hp.euclid h with g | g
    · exact h1 g
    · exact h2 g
  have s1 : sgn M M2 (1 % M2) = 1 := by rw [Nat.mod_eq_of_lt (by omega)]; exact sgn_low M1
  have sA : sgn M M2 (A % M2) = A := by rw [Nat.mod_eq_of_lt Ap]; exact sgn_low A9
  -- products and powers, in the numbers' own terms
  have TIx : ∀ x y u, ¬ M2 ∣ x → ¬ M2 ∣ y → sgn M M2 (x * y % M2) = u → ∀ W, Calls Try.prog 17 #[.int .i64 z, .string (TX S (sgn M M2 (x % M2))), .string (TX S (sgn M M2 (y % M2)))] W fun e w' => e = .returned (.string (TX S u)) ∧ Below W.heap.size W w' := fun x y u h1 h2 hu W => by
    have q := TI k hs W (sp x h1) (sl x) (sp y h2) (sl y)
    rw [sgn_mul e2 (ml x) (ml y), ← Nat.mul_mod, hu] at q
    exact q
  have POx : ∀ x t u, ¬ M2 ∣ x → t < M → sgn M M2 (x ^ t % M2) = u → ∀ W, Calls Try.prog 15 #[.int .i64 z, .string (TX S (sgn M M2 (x % M2))), .string (TX S t)] W fun e w' => e = .returned (.string (TX S u)) ∧ Below W.heap.size W w' := fun x t u h1 ht hu W => by
    have q := PO k hs W (sp x h1) (sl x) ht
    rw [sgn_pow e2 M1 (ml x), ← Nat.pow_mod, hu] at q
    exact q
  have sB : sgn M M2 (B % M2) = B := by rw [Nat.mod_eq_of_lt Bp]; exact sgn_low B9
  have sC : sgn M M2 (C % M2) = C := by rw [Nat.mod_eq_of_lt Cp]; exact sgn_low C9
  have n1 : ¬ M2 ∣ 1 := hp.not_dvd_lt (by omega) (by omega)
  have hI : sgn M M2 (A * A ^ (M2 - 2) % M2) = 1 := by
    rw [Nat.mul_comm, ← Nat.pow_succ, show (M2 - 2).succ = M2 - 1 by omega, hp.fermat1 nA]
    exact sgn_low M1
  have hL : sgn M M2 (A ^ (M - 1) * A % M2) = 1 := by
    rw [← Nat.pow_succ, show (M - 1).succ = M by omega]
    exact sgn_half hp e2 M1 A0 Ap
  have P1 := POx A 0 1 nA (by omega) (by rw [Nat.pow_zero]; exact s1)
  have P2 := POx A 1 A nA (by omega) (by rw [Nat.pow_one]; exact sA)
  have P3 := POx A (M - 1) _ nA (by omega) rfl
  have Pam := POx A X _ nA X9 rfl
  have Pan := POx A Y _ nA Y9 rfl
  have Psu := POx A ((X + Y) % M) (sgn M M2 (A ^ (X + Y) % M2)) nA (mq _) (sgn_exp hp e2 M1 A0 Ap (X + Y)).symm
  have Pamn := POx (A ^ X) Y (sgn M M2 (A ^ (X * Y) % M2)) (nP A X nA) Y9 (by rw [← Nat.pow_mul])
  have Ppr := POx A (X * Y % M) (sgn M M2 (A ^ (X * Y) % M2)) nA (mq _) (sgn_exp hp e2 M1 A0 Ap (X * Y)).symm
  have Pabm := POx (A * B) X (sgn M M2 (A ^ X * B ^ X % M2)) (nM A B nA nB) X9 (by rw [Nat.mul_pow])
  have Pbm := POx B X _ nB X9 rfl
  have Pbn := POx B Y _ nB Y9 rfl
  have T1 := TIx A (A ^ (M2 - 2)) 1 nA (nP A _ nA) hI
  have T2 := TIx A 1 A nA n1 (by rw [Nat.mul_one]; exact sA)
  have T3 := TIx (A ^ (M - 1)) A 1 (nP A _ nA) nA hL
  have Tab := TIx A B _ nA nB rfl
  have Tba := TIx B A (sgn M M2 (A * B % M2)) nB nA (by rw [Nat.mul_comm])
  have Tabc := TIx (A * B) C _ (nM A B nA nB) nC rfl
  have Tbc := TIx B C _ nB nC rfl
  have Tabc2 := TIx A (B * C) (sgn M M2 (A * B * C % M2)) nA (nM B C nB nC) (by rw [Nat.mul_assoc])
  have Tq1 := TIx (A ^ X) (A ^ Y) (sgn M M2 (A ^ (X + Y) % M2)) (nP A X nA) (nP A Y nA) (by rw [Nat.pow_add])
  have Tq3 := TIx (A ^ X) (B ^ X) _ (nP A X nA) (nP B X nB) rfl
  have Tpp := TIx (A ^ X) (B ^ Y) _ (nP A X nA) (nP B Y nB) rfl
  rw [sA] at P1 P2 P3 Pam Pan Psu Ppr T1 T2 T3 Tab Tba Tabc2
  rw [sB] at Pbm Pbn Tab Tba Tbc
  rw [sC] at Tabc Tbc
  rw [s1] at T2
  have Mab := MBx true (TX S (sgn M M2 (A * B % M2))) (k.ee hs (sp _ (nM A B nA nB)) (sl _))
  have ADc : ∀ W, Calls Try.prog 18 #[.int .i64 z, .string (TX S X), .string (TX S Y)] W fun e w' => e = .returned (.tuple #[.string (TX S ((X + Y) % M)), .int .i64 0]) ∧ Below W.heap.size W w' := fun W => by
    have q := add_yes k W (k.sc X9) (k.sc Y9)
    rw [k.nu X9, k.nu Y9] at q
    exact q
  have MUc : ∀ W, Calls Try.prog 19 #[.int .i64 z, .string (TX S X), .string (TX S Y)] W fun e w' => e = .returned (.tuple #[.string (TX S (X * Y % M)), .int .i64 0]) ∧ Below W.heap.size W w' := fun W => by
    have q := mul_yes k W (k.sc X9) (k.sc Y9)
    rw [k.nu X9, k.nu Y9] at q
    exact q
  have PR : ∀ W b1 b2, IHolds W b1 9 [.string (TX S A), .string (TX S B)] → IHolds W b2 9 [.string (TX S X), .string (TX S Y)] → Calls Try.prog 20 #[.int .i64 z, .slice (some ⟨b1, 0, none⟩) 2 2, .slice (some ⟨b2, 0, none⟩) 2 2] W fun e w' => e = .returned (.tuple #[.string (TX S (sgn M M2 (A ^ X * B ^ Y % M2))), .int .i64 0]) ∧ Below W.heap.size W w' := fun W b1 b2 h1 h2 => by
    have q := prod_yes k W (n := 2) (cx := 2) (cn := 2) (SAt.two h1) (SAt.two h2) rfl rfl (by omega)
    have ec : code S M [TX S A, TX S B] [TX S X, TX S Y] = 0 := by simp [code, k.ee hs A0 A9, k.ee hs B0 B9, k.sc X9, k.sc Y9]
    have et : prodT S M M2 [TX S A, TX S B] [TX S X, TX S Y] = TX S (sgn M M2 (A ^ X * B ^ Y % M2)) := by
      rw [prodT, ec, if_pos rfl]
      have en : powP (nums [TX S A, TX S B]) (nums [TX S X, TX S Y]) [TX S A, TX S B].length = A ^ X * B ^ Y := by
        simp [nums, powP, k.en hs A9, k.en hs B9, k.nu X9, k.nu Y9]
      rw [en]
      rfl
    rw [ec, et] at q
    exact q
  exact glaw_ok BA Mb Ma Mbb Mc Sm Sn (fun W => zero_call k W) (fun W => one_call k W) (fun W => last_call k W) (fun W => UN k hs W A0 A9) P1 P2 P3 Pam Pan Psu Pamn Ppr Pabm Pbm Pbn T1 T2 T3 Tab Tba Tabc Tbc Tabc2 Tq1 Tq3 Tpp Mab ADc MUc PR
end
theorem groupLaw_walk (z : Int) (a b c m n : ByteArray) (w : World) : Calls Try.prog 4 #[.int .i64 z, .string a, .string b, .string c, .string m, .string n] w fun e w' => e = .returned (.bool true) ∧ Below w.heap.size w w' := by
  by_cases z1 : z = 1
  · subst z1; exact law_kind kd1 prime_p1 (by decide +kernel) w a b c m n
  by_cases z2 : z = 2
  · subst z2; exact law_kind kd2 prime_p2 (by decide +kernel) w a b c m n
  by_cases z3 : z = 3
  · subst z3; exact law_kind kd3 prime_p3 (by decide +kernel) w a b c m n
  have G := fun W => ground0 W z (beq_eq_false_iff_ne.2 z1) (beq_eq_false_iff_ne.2 z2) (beq_eq_false_iff_ne.2 z3)
  exact glaw_none (fun W => base_call (on48_no 36 rfl size70 (by kernel_rfl) G))
end Go.Proofs.Ytckfdpiohkggaab
