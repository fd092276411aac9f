/- Texts of numbers. Signed residues of a safe prime: a group. Ballot's small functions: what they do with what the group's answer. Ballot's Encrypt, Renew and Decrypt, and sigma's Public. The group's faces, with texts of numbers. -/
import Derived.Test.YtohpbclofcflaaaGreatKnowsAll
import Derived.Test.YtohpbclofcflaaaGreatElemV
import Derived.Test.YtohpbclofcflaaaGreatAid
import Derived.Test.YtohpbclofcflaaaGreatKinds
import Derived.Test.YtohpbclofcflaaaGreatProdF
import Derived.Test.YtohpbclofcflaaaGreatPrime
set_option linter.unusedSimpArgs false
set_option linter.unusedVariables false
set_option maxRecDepth 100000
namespace Go.Proofs.YtohpbclofcflaaaGreat
open Go.RowKit Go.Deep Go.PlainAid

theorem beV_beB (n : Nat) : ∀ k, beV (beB k n) = n % 256 ^ k
  | 0 => by simp [beB, beV, Nat.mod_one]
  | k + 1 => by
    rw [beB, beV, beV_beB n k, beB_length, Nat.mod_pow_succ, UInt8.toNat_ofNat']
    have : n / 256 ^ k % 256 % 2 ^ 8 = n / 256 ^ k % 256 := Nat.mod_eq_of_lt (by omega)
    rw [this, Nat.mul_comm]
    omega
theorem beB_add (n : Nat) : ∀ (k c : Nat), beB k (n + 256 ^ k * c) = beB k n
  | 0, _ => rfl
  | k + 1, c => by
    have e : n + 256 ^ (k + 1) * c = n + 256 ^ k * (256 * c) := by rw [Nat.pow_succ, Nat.mul_assoc]
    rw [e, beB, beB, beB_add n k, Nat.add_mul_div_left _ _ (Nat.pow_pos (by omega)), Nat.add_mul_mod_self_left]
theorem beB_beV : ∀ l : List UInt8, beB l.length (beV l) = l
  | [] => rfl
  | c :: l => by
    have hl := beV_lt l
    rw [List.length_cons, beB, beV]
    have h1 : (c.toNat * 256 ^ l.length + beV l) / 256 ^ l.length % 256 = c.toNat := by
      rw [Nat.add_comm, Nat.add_mul_div_right _ _ (Nat.pow_pos (by omega)), Nat.div_eq_of_lt hl, Nat.zero_add]
      exact Nat.mod_eq_of_lt (UInt8.toNat_lt c)
    rw [h1]
    have h2 : beB l.length (c.toNat * 256 ^ l.length + beV l) = l := by
      rw [Nat.add_comm, Nat.mul_comm, beB_add]
      exact beB_beV l
    rw [h2]
    congr 1
    exact UInt8.ofNat_toNat
/-- The text of a number in S bytes. -/
def TX (S n : Nat) : ByteArray := ⟨(beB S n).toArray⟩
theorem numS_TX {S n : Nat} (h : n < 256 ^ S) : numS (TX S n) = n := by
  unfold numS TX
  rw [List.toList_toArray, beV_beB, Nat.mod_eq_of_lt h]
theorem size_TX (S n : Nat) : (TX S n).size = S := by
  show (beB S n).toArray.size = S
  rw [List.size_toArray, beB_length]
theorem TX_numS {S : Nat} {s : ByteArray} (h : s.size = S) : TX S (numS s) = s := by
  unfold TX numS
  have e : S = s.data.toList.length := by rw [← h]; rfl
  rw [e, beB_beV]
theorem isSc_TX {S M n : Nat} (h : n < M) (hM : M ≤ 256 ^ S) : isSc S M (TX S n) = true := decide_eq_true ⟨size_TX S n, by rw [numS_TX (Nat.lt_of_lt_of_le h hM)]; exact h⟩
end Go.Proofs.YtohpbclofcflaaaGreat
namespace Go.Proofs.YtohpbclofcflaaaGreat

theorem sgn_mul_right {M M2 x y : Nat} (e : M2 = 2 * M + 1) (hy : y < M2) : sgn M M2 (x * sgn M M2 y % M2) = sgn M M2 (x * y % M2) := by
  rw [Nat.mul_comm, sgn_mul_left e hy, Nat.mul_comm]
theorem sgn_pow {M M2 x : Nat} (e : M2 = 2 * M + 1) (hM : 1 ≤ M) (hx : x < M2) (n : Nat) : sgn M M2 (sgn M M2 x ^ n % M2) = sgn M M2 (x ^ n % M2) := by
  induction n with
  | zero => rw [Nat.pow_zero, Nat.pow_zero]
  | succ n ih =>
    have h1 : sgn M M2 (sgn M M2 x ^ (n + 1) % M2) = sgn M M2 (sgn M M2 x ^ n % M2 * x % M2) := by
      rw [Nat.pow_succ, Nat.mul_mod, ← sgn_mul_right e (Nat.mod_lt _ (by omega)), Nat.mod_eq_of_lt (show sgn M M2 x < M2 by have := sgn_le e hx; omega)]
      have h2 : sgn M M2 (sgn M M2 x) = sgn M M2 x := by
        have h3 := sgn_le e hx
        generalize sgn M M2 x = y at *
        unfold sgn
        rw [if_neg (by omega)]
      rw [h2, sgn_mul_right e hx]
    rw [h1, ← sgn_mul_left e (Nat.mod_lt _ (by omega)), ih, sgn_mul_left e (Nat.mod_lt _ (by omega)), Nat.mod_mul_mod, ← Nat.pow_succ]
theorem sgn_low {M M2 x : Nat} (h : x ≤ M) : sgn M M2 x = x := by unfold sgn; rw [if_neg (by omega)]
theorem sgn_half {M M2 a : Nat} (hp : IsP M2) (e : M2 = 2 * M + 1) (hM : 1 ≤ M) (h0 : a ≠ 0) (h9 : a < M2) : sgn M M2 (a ^ M % M2) = 1 := by
  have hn : ¬ M2 ∣ a := hp.not_dvd_lt (by omega) h9
  rcases half_power hp e hn with g | g
  · rw [g]; exact sgn_low hM
  · rw [g, sgn_neg e (by omega) (by omega)]; exact sgn_low hM
theorem sgn_exp {M M2 a : Nat} (hp : IsP M2) (e : M2 = 2 * M + 1) (hM : 1 ≤ M) (h0 : a ≠ 0) (h9 : a < M2) (k : Nat) : sgn M M2 (a ^ k % M2) = sgn M M2 (a ^ (k % M) % M2) := by
  have h1 : a ^ k = (a ^ M) ^ (k / M) * a ^ (k % M) := by rw [← Nat.pow_mul, ← Nat.pow_add, Nat.div_add_mod]
  have hs := sgn_half hp e hM h0 h9
  have h2 : sgn M M2 ((a ^ M) ^ (k / M) % M2) = 1 := by
    rw [Nat.pow_mod, ← sgn_pow e hM (Nat.mod_lt _ (by omega)), hs, Nat.one_pow, Nat.mod_eq_of_lt (by omega)]
    exact sgn_low hM
  rw [h1, Nat.mul_mod, ← sgn_mul e (Nat.mod_lt _ (by omega)) (Nat.mod_lt _ (by omega)), h2, Nat.one_mul]
  have h3 := sgn_le (M := M) e (Nat.mod_lt (a ^ (k % M)) (show M2 > 0 by omega))
  rw [Nat.mod_eq_of_lt (by omega)]
  exact sgn_low h3
theorem sgn_pos {M M2 c : Nat} (e : M2 = 2 * M + 1) (h0 : c ≠ 0) (h : c < M2) : sgn M M2 c ≠ 0 := by unfold sgn; split <;> omega
theorem prod_pos {p a b : Nat} (hp : IsP p) (ha : ¬ p ∣ a) (hb : ¬ p ∣ b) : a * b % p ≠ 0 := fun h => by
  rcases hp.euclid (Nat.dvd_of_mod_eq_zero h) with g | g
  · exact ha g
  · exact hb g
end Go.Proofs.YtohpbclofcflaaaGreat
namespace Go.Proofs.YtohpbclofcflaaaGreat
open Go.RowKit Go.Deep Go.PlainAid

theorem base43 {w : World} {z c : Int} {r : ByteArray}   (h : Hid (∀ W, Calls Tryz.prog 61 #[.int .i64 z] W fun e w' => e = .returned (.tuple #[.string r, .int .i64 c]) ∧ Below W.heap.size W w')) :
    Calls Tryz.prog 36 #[.agg #[.int .i64 z]] w fun e w' => e = .returned (.string r) ∧ Below w.heap.size w w' := by
  have J : Hid (Below w.heap.size w (w.alloc (.cells #[.int .i64 z] 34))) := (Below.refl _ w).alloc (Nat.le_refl _) _
  go_enter Tryz.func36, Tryz.ntmps36
  go_wp2_with (go_at_call 61; refine (h.out _).mono ?_; rintro e w1 ⟨rfl, hB1⟩)
  go_ret
  exact ⟨rfl, J.out.trans (hB1.mono J.out.size)⟩
theorem power44 {w : World} {z c : Int} {s t r : ByteArray}   (h : Hid (∀ W, Calls Tryz.prog 62 #[.int .i64 z, .string s, .string t] W fun e w' => e = .returned (.tuple #[.string r, .int .i64 c]) ∧ Below W.heap.size W w')) :
    Calls Tryz.prog 37 #[.agg #[.int .i64 z], .string s, .string t] w fun e w' => e = .returned (.string r) ∧ Below w.heap.size w w' := by
  have J : Hid (Below w.heap.size w (w.alloc (.cells #[.int .i64 z] 34))) := (Below.refl _ w).alloc (Nat.le_refl _) _
  go_enter Tryz.func37, Tryz.ntmps37
  go_wp2_with (go_at_call 62; refine (h.out _).mono ?_; rintro e w1 ⟨rfl, hB1⟩)
  go_ret
  exact ⟨rfl, J.out.trans (hB1.mono J.out.size)⟩
theorem times45 {w : World} {z c : Int} {s t r : ByteArray}   (h : Hid (∀ W, Calls Tryz.prog 67 #[.int .i64 z, .string s, .string t] W fun e w' => e = .returned (.tuple #[.string r, .int .i64 c]) ∧ Below W.heap.size W w')) :
    Calls Tryz.prog 47 #[.agg #[.int .i64 z], .string s, .string t] w fun e w' => e = .returned (.string r) ∧ Below w.heap.size w w' := by
  have J : Hid (Below w.heap.size w (w.alloc (.cells #[.int .i64 z] 34))) := (Below.refl _ w).alloc (Nat.le_refl _) _
  go_enter Tryz.func47, Tryz.ntmps47
  go_wp2_with (go_at_call 67; refine (h.out _).mono ?_; rintro e w1 ⟨rfl, hB1⟩)
  go_ret
  exact ⟨rfl, J.out.trans (hB1.mono J.out.size)⟩
theorem under47 {w : World} {z c : Int} {s r : ByteArray}   (h : Hid (∀ W, Calls Tryz.prog 71 #[.int .i64 z, .string s] W fun e w' => e = .returned (.tuple #[.string r, .int .i64 c]) ∧ Below W.heap.size W w')) :
    Calls Tryz.prog 49 #[.agg #[.int .i64 z], .string s] w fun e w' => e = .returned (.string r) ∧ Below w.heap.size w w' := by
  have J : Hid (Below w.heap.size w (w.alloc (.cells #[.int .i64 z] 34))) := (Below.refl _ w).alloc (Nat.le_refl _) _
  go_enter Tryz.func49, Tryz.ntmps49
  go_wp2_with (go_at_call 71; refine (h.out _).mono ?_; rintro e w1 ⟨rfl, hB1⟩)
  go_ret
  exact ⟨rfl, J.out.trans (hB1.mono J.out.size)⟩
theorem number24 {w : World} {z c : Int} {r : ByteArray} {n : Int}  (h : Hid (∀ W, Calls Tryz.prog 48 #[.int .i64 z, .int .i64 n] W fun e w' => e = .returned (.tuple #[.string r, .int .i64 c]) ∧ Below W.heap.size W w')) :
    Calls Tryz.prog 29 #[.agg #[.int .i64 z], .int .i64 n] w fun e w' => e = .returned (.string r) ∧ Below w.heap.size w w' := by
  have J : Hid (Below w.heap.size w (w.alloc (.cells #[.int .i64 z] 34))) := (Below.refl _ w).alloc (Nat.le_refl _) _
  go_enter Tryz.func29, Tryz.ntmps29
  go_wp2_with (go_at_call 48; refine (h.out _).mono ?_; rintro e w1 ⟨rfl, hB1⟩)
  go_ret
  exact ⟨rfl, J.out.trans (hB1.mono J.out.size)⟩
theorem noElem19 {w : World} {z : Int} {s : ByteArray}  {q : Bool} (h : Hid (∀ W, Calls Tryz.prog 33 #[.int .i64 z, .string s] W fun e w' => e = .returned (.bool q) ∧ Below W.heap.size W w')) :
    Calls Tryz.prog 13 #[.agg #[.int .i64 z], .string s] w fun e w' => e = .returned (.bool (!q)) ∧ Below w.heap.size w w' := by
  have J : Hid (Below w.heap.size w (w.alloc (.cells #[.int .i64 z] 34))) := (Below.refl _ w).alloc (Nat.le_refl _) _
  go_enter Tryz.func13, Tryz.ntmps13
  go_wp2_with (go_at_call 33; refine (h.out _).mono ?_; rintro e w1 ⟨rfl, hB1⟩)
  go_ret
  exact ⟨rfl, J.out.trans (hB1.mono J.out.size)⟩
theorem noScalar20 {w : World} {z : Int} {s : ByteArray}  {q : Bool} (h : Hid (∀ W, Calls Tryz.prog 34 #[.int .i64 z, .string s] W fun e w' => e = .returned (.bool q) ∧ Below W.heap.size W w')) :
    Calls Tryz.prog 14 #[.agg #[.int .i64 z], .string s] w fun e w' => e = .returned (.bool (!q)) ∧ Below w.heap.size w w' := by
  have J : Hid (Below w.heap.size w (w.alloc (.cells #[.int .i64 z] 34))) := (Below.refl _ w).alloc (Nat.le_refl _) _
  go_enter Tryz.func14, Tryz.ntmps14
  go_wp2_with (go_at_call 34; refine (h.out _).mono ?_; rintro e w1 ⟨rfl, hB1⟩)
  go_ret
  exact ⟨rfl, J.out.trans (hB1.mono J.out.size)⟩
theorem groundOf18 {w : World} {z s c : Int} (h : Hid (∀ W, Calls Tryz.prog 32 #[.int .i64 z] W fun e w' => e = .returned (.tuple #[.int .i64 s, .int .i64 s, .int .i64 c]) ∧ Below W.heap.size W w')) :
    Calls Tryz.prog 12 #[.int .i64 z] w fun e w' => e = .returned (.tuple #[.agg #[.int .i64 z], .int .i64 c]) ∧ Below w.heap.size w w' := by
  generalize hW : w.alloc (.cells #[.int .i64 0] 34) = W
  have J : Hid (Below w.heap.size w W) := by rw [← hW]; exact (Below.refl _ w).alloc (Nat.le_refl _) _
  have I0 : Hid (IHolds W w.heap.size 34 [.int .i64 0]) := by rw [← hW]; exact IHolds.new w 34 [.int .i64 0]
  go_enter Tryz.func12, Tryz.ntmps12
  go_wp2_with (go_at_call 32; refine (h.out _).mono ?_; rintro e w1 ⟨rfl, hB1⟩; have B1 : Hid (Below w.heap.size w w1) := J.out.trans (hB1.mono J.out.size); have I1 : Hid (IHolds w1 w.heap.size 34 [.int .i64 0]) := I0.out.of_below hB1; have f1 : w1.frozen? ⟨w.heap.size, 0, none⟩ = false := I1.out.frozen 0; have c1 : w1.cell? ⟨w.heap.size, 0, none⟩ = some (.int .i64 0) := I1.out.cell 0 (by simp))
  have I2 : Hid (IHolds (w1.setCell ⟨w.heap.size, 0, none⟩ (.int .i64 z)) w.heap.size 34 [.int .i64 z]) := I1.out.set 0 (.int .i64 z)
  have B2 : Hid (Below w.heap.size w (w1.setCell ⟨w.heap.size, 0, none⟩ (.int .i64 z))) := Below.setCell B1.out (Nat.le_refl _) _
  generalize w1.setCell ⟨w.heap.size, 0, none⟩ (.int .i64 z) = w2 at *
  have E0 : w2.cell? ⟨w.heap.size, 0, none⟩ = some (.int .i64 z) := I2.out.cell 0 (by simp)
  exact bodyPost_ret (v := .tuple #[.agg #[.int .i64 z], .int .i64 c]) (by simp [results, Tryz.results12, go_sem, E0]) rfl ⟨rfl, B2.out⟩
set_option maxRecDepth 100000 in
set_option maxHeartbeats 2000000 in
theorem both23 {w : World} {z : Int} {a b x y p q : ByteArray} (C1 : Hid (∀ W, Calls Tryz.prog 47 #[.agg #[.int .i64 z], .string a, .string x] W fun e w' => e = .returned (.string p) ∧ Below W.heap.size W w')) (C2 : Hid (∀ W, Calls Tryz.prog 47 #[.agg #[.int .i64 z], .string b, .string y] W fun e w' => e = .returned (.string q) ∧ Below W.heap.size W w')) :
    Calls Tryz.prog 28 #[.agg #[.int .i64 z], .agg #[.string a, .string b], .agg #[.string x, .string y]] w fun e w' => e = .returned (.agg #[.string p, .string q]) ∧ Below w.heap.size w w' := by
  go_enter Tryz.func28, Tryz.ntmps28
  go_wp2_with fail
  obtain ⟨U1, hU1⟩ : ∃ X, X = ((((w.alloc (.cells #[.int .i64 z] 34)).alloc (.cells #[.string a, .string b] 24)).alloc (.cells #[.string x, .string y] 24)).alloc (.cells #[.string ⟨#[]⟩, .string ⟨#[]⟩] 24)) := ⟨_, rfl⟩
  have Jg : Hid (IHolds U1 (w.heap.size) 34 [.int .i64 z]) := by
    have q := IHolds.new w 34 [.int .i64 z]
    show IHolds _ _ _ _
    rw [hU1]
    exact (((q.alloc _).alloc _).alloc _)
  have Ja : Hid (IHolds U1 (w.heap.size + 1) 24 [.string a, .string b]) := by
    have q := IHolds.new (w.alloc (.cells #[.int .i64 z] 34)) 24 [.string a, .string b]
    simp only [World.size_alloc, Nat.add_assoc, Nat.reduceAdd] at q
    show IHolds _ _ _ _
    rw [hU1]
    exact ((q.alloc _).alloc _)
  have Jx : Hid (IHolds U1 (w.heap.size + 2) 24 [.string x, .string y]) := by
    have q := IHolds.new ((w.alloc (.cells #[.int .i64 z] 34)).alloc (.cells #[.string a, .string b] 24)) 24 [.string x, .string y]
    simp only [World.size_alloc, Nat.add_assoc, Nat.reduceAdd] at q
    show IHolds _ _ _ _
    rw [hU1]
    exact (q.alloc _)
  have Jr : Hid (IHolds U1 (w.heap.size + 3) 24 [.string ⟨#[]⟩, .string ⟨#[]⟩]) := by
    have q := IHolds.new (((w.alloc (.cells #[.int .i64 z] 34)).alloc (.cells #[.string a, .string b] 24)).alloc (.cells #[.string x, .string y] 24)) 24 [.string ⟨#[]⟩, .string ⟨#[]⟩]
    simp only [World.size_alloc, Nat.add_assoc, Nat.reduceAdd] at q
    show IHolds _ _ _ _
    rw [hU1]
    exact q
  have B : Hid (Below w.heap.size w U1) := by
    show Below _ _ _
    rw [hU1]
    exact (((((Below.refl _ w).alloc (Nat.le_refl _) _).alloc (by simp only [World.size_alloc]; omega) _).alloc (by simp only [World.size_alloc]; omega) _).alloc (by simp only [World.size_alloc]; omega) _)
  rw [← hU1]
  clear hU1
  have hb := dB U1
  replace B := aB B hb
  replace Jg := aJ Jg hb
  replace Ja := aJ Ja hb
  replace Jx := aJ Jx hb
  replace Jr := aJ Jr hb
  clear hb
  refine wp_region_held_drew (S := fun W => (IHolds W (w.heap.size) 34 [.int .i64 z]) ∧ (IHolds W (w.heap.size + 1) 24 [.string a, .string b]) ∧ (IHolds W (w.heap.size + 2) 24 [.string x, .string y])) (by kernel_rfl) ⟨Jg.out, Ja.out, Jx.out⟩ (fun hHeld1 => ?_)
  generalize U1.drew = U2 at *
  refine tk (i := 0) (v := .agg #[.int .i64 z]) rfl (by kernel_rfl) (fun _ _ _ h => h) rfl ?_ hHeld1 ?_
  · intro W hS; have zg_0 : W.cell? ⟨w.heap.size, 0, none⟩ = some (.int .i64 z) := IHolds.cell (l := [.int .i64 z]) (t := 34) (b := w.heap.size) (w := W) (hS.1) 0 (by simp); go_simp
  simp only [Act.put, y1, y2, y3, y4, y5, y6, y7]
  refine tk (i := 1) (v := .pointer (some ⟨w.heap.size + 1, 0, none⟩)) rfl (by kernel_rfl) (fun _ _ _ h => h) rfl ?_ hHeld1 ?_
  · intro W hS; go_simp
  simp only [Act.put, y1, y2, y3, y4, y5, y6, y7]
  refine tk (i := 3) (v := .pointer (some ⟨w.heap.size + 2, 0, none⟩)) rfl (by kernel_rfl) (fun _ _ _ h => h) rfl ?_ hHeld1 ?_
  · intro W hS; go_simp
  simp only [Act.put, y1, y2, y3, y4, y5, y6, y7]
  refine tk (i := 6) (v := .agg #[.int .i64 z]) rfl (by kernel_rfl) (fun _ _ _ h => h) rfl ?_ hHeld1 ?_
  · intro W hS; have zg_0 : W.cell? ⟨w.heap.size, 0, none⟩ = some (.int .i64 z) := IHolds.cell (l := [.int .i64 z]) (t := 34) (b := w.heap.size) (w := W) (hS.1) 0 (by simp); go_simp
  simp only [Act.put, y1, y2, y3, y4, y5, y6, y7]
  refine tk (i := 7) (v := .pointer (some ⟨w.heap.size + 1, 1, none⟩)) rfl (by kernel_rfl) (fun _ _ _ h => h) rfl ?_ hHeld1 ?_
  · intro W hS; go_simp
  simp only [Act.put, y1, y2, y3, y4, y5, y6, y7]
  refine tk (i := 9) (v := .pointer (some ⟨w.heap.size + 2, 1, none⟩)) rfl (by kernel_rfl) (fun _ _ _ h => h) rfl ?_ hHeld1 ?_
  · intro W hS; go_simp
  simp only [Act.put, y1, y2, y3, y4, y5, y6, y7]
  refine tk (i := 2) (v := .string a) rfl (by kernel_rfl) (fun _ _ _ h => h) rfl ?_ hHeld1 ?_
  · intro W hS; obtain ⟨za_0, za_1⟩ := c2 hS.2.1; go_simp
  simp only [Act.put, y1, y2, y3, y4, y5, y6, y7]
  refine tk (i := 4) (v := .string x) rfl (by kernel_rfl) (fun _ _ _ h => h) rfl ?_ hHeld1 ?_
  · intro W hS; obtain ⟨zx_0, zx_1⟩ := c2 hS.2.2; go_simp
  simp only [Act.put, y1, y2, y3, y4, y5, y6, y7]
  refine tk (i := 8) (v := .string b) rfl (by kernel_rfl) (fun _ _ _ h => h) rfl ?_ hHeld1 ?_
  · intro W hS; obtain ⟨za_0, za_1⟩ := c2 hS.2.1; go_simp
  simp only [Act.put, y1, y2, y3, y4, y5, y6, y7]
  refine tk (i := 10) (v := .string y) rfl (by kernel_rfl) (fun _ _ _ h => h) rfl ?_ hHeld1 ?_
  · intro W hS; obtain ⟨zx_0, zx_1⟩ := c2 hS.2.2; go_simp
  simp only [Act.put, y1, y2, y3, y4, y5, y6, y7]
  refine wpAnyH_ready (rs := [5]) (by kernel_rfl) (by simp) ?_
  refine AllReadyH.cons rfl (fun K hK => ?_) AllReadyH.nil
  clear hHeld1
  go_simp
  refine (C1.out U2).mono ?_
  rintro e U3 ⟨rfl, hb⟩
  replace B := aB B hb
  replace Jg := aJ Jg hb
  replace Ja := aJ Ja hb
  replace Jx := aJ Jx hb
  replace Jr := aJ Jr hb
  clear hb
  go_wp2_with fail
  refine hK.out _ _ (⟨Jg.out, Ja.out, Jx.out⟩) (fun hHeld2 => ?_)
  clear hK K
  try simp only [Act.put, y1, y2, y3, y4, y5, y6, y7]
  refine wpAnyH_ready (rs := [11]) (by kernel_rfl) (by simp) ?_
  refine AllReadyH.cons rfl (fun K hK => ?_) AllReadyH.nil
  clear hHeld2
  go_simp
  refine (C2.out U3).mono ?_
  rintro e U4 ⟨rfl, hb⟩
  replace B := aB B hb
  replace Jg := aJ Jg hb
  replace Ja := aJ Ja hb
  replace Jx := aJ Jx hb
  replace Jr := aJ Jr hb
  clear hb
  go_wp2_with fail
  refine hK.out _ _ (⟨Jg.out, Ja.out, Jx.out⟩) (fun hHeld3 => ?_)
  clear hK K
  try simp only [Act.put, y1, y2, y3, y4, y5, y6, y7]
  refine tk (i := 12) (v := .agg #[.string p, .string q]) rfl (by kernel_rfl) (fun _ _ _ h => h) rfl ?_ hHeld3 ?_
  · intro W hS; go_simp
  simp only [Act.put, y1, y2, y3, y4, y5, y6, y7]
  refine wpAnyH_ready (rs := [13]) (by kernel_rfl) (by simp) ?_
  refine AllReadyH.cons rfl (fun K hK => ?_) AllReadyH.nil
  clear hHeld3
  obtain ⟨zr_0, zr_1⟩ := cJ Jr
  have f0 := fJ Jr
  have hBut : But (w.heap.size + 3) U4 ((U4.setCell ⟨w.heap.size + 3, 0, none⟩ (.string p)).setCell ⟨w.heap.size + 3, 1, none⟩ (.string q)) := (((But.refl _ U4).setCell 0 (.string p)).setCell 1 (.string q))
  have I4 : Hid (IHolds _ (w.heap.size + 3) 24 [.string p, .string q]) := ((Jr.out.set 0 (.string p)).set 1 (.string q))
  replace B : Hid (Below w.heap.size w ((U4.setCell ⟨w.heap.size + 3, 0, none⟩ (.string p)).setCell ⟨w.heap.size + 3, 1, none⟩ (.string q))) := ((B.out.setCell (by first | exact Nat.le_refl _ | exact ge_r.out | (show w.heap.size ≤ w.heap.size + 3; omega)) _).setCell (by first | exact Nat.le_refl _ | exact ge_r.out | (show w.heap.size ≤ w.heap.size + 3; omega)) _)
  replace Jg := tJ Jg hBut (by omega)
  replace Ja := tJ Ja hBut (by omega)
  replace Jx := tJ Jx hBut (by omega)
  replace Jr := I4
  clear I4 hBut
  go_simp
  try go_wp2_with fail
  clear zr_0 zr_1
  clear f0
  generalize ((U4.setCell ⟨w.heap.size + 3, 0, none⟩ (.string p)).setCell ⟨w.heap.size + 3, 1, none⟩ (.string q)) = U5 at *
  refine hK.out _ _ (⟨Jg.out, Ja.out, Jx.out⟩) (fun hHeld4 => ?_)
  clear hK K
  try simp only [Act.put, y1, y2, y3, y4, y5, y6, y7]
  refine wpAnyH_done (by kernel_rfl) ?_ _
  clear hHeld4
  go_wp2_with fail
  have E0 : Hid (U5.cell? ⟨w.heap.size + 3, 0, none⟩ = some (.string p)) := IHolds.cell (l := [.string p, .string q]) (t := 24) (b := w.heap.size + 3) (w := U5) Jr.out 0 (by simp)
  have E1 : Hid (U5.cell? ⟨w.heap.size + 3, 1, none⟩ = some (.string q)) := IHolds.cell (l := [.string p, .string q]) (t := 24) (b := w.heap.size + 3) (w := U5) Jr.out 1 (by simp)
  exact bodyPost_ret (v := .agg #[.string p, .string q]) (by simp [results, Tryz.results28, go_sem, E0.out, E1.out]) rfl ⟨rfl, B.out⟩
set_option maxRecDepth 100000 in
set_option maxHeartbeats 2000000 in
theorem shown25 {w : World} {z : Int} {s a b p u q : ByteArray} (C1 : Hid (∀ W, Calls Tryz.prog 37 #[.agg #[.int .i64 z], .string a, .string s] W fun e w' => e = .returned (.string p) ∧ Below W.heap.size W w')) (C2 : Hid (∀ W, Calls Tryz.prog 49 #[.agg #[.int .i64 z], .string p] W fun e w' => e = .returned (.string u) ∧ Below W.heap.size W w')) (C3 : Hid (∀ W, Calls Tryz.prog 47 #[.agg #[.int .i64 z], .string b, .string u] W fun e w' => e = .returned (.string q) ∧ Below W.heap.size W w')) :
    Calls Tryz.prog 30 #[.agg #[.int .i64 z], .string s, .agg #[.string a, .string b]] w fun e w' => e = .returned (.string q) ∧ Below w.heap.size w w' := by
  go_enter Tryz.func30, Tryz.ntmps30
  go_wp2_with fail
  obtain ⟨U1, hU1⟩ : ∃ X, X = ((w.alloc (.cells #[.int .i64 z] 34)).alloc (.cells #[.string a, .string b] 24)) := ⟨_, rfl⟩
  have Jg : Hid (IHolds U1 (w.heap.size) 34 [.int .i64 z]) := by
    have q := IHolds.new w 34 [.int .i64 z]
    show IHolds _ _ _ _
    rw [hU1]
    exact (q.alloc _)
  have Ja : Hid (IHolds U1 (w.heap.size + 1) 24 [.string a, .string b]) := by
    have q := IHolds.new (w.alloc (.cells #[.int .i64 z] 34)) 24 [.string a, .string b]
    simp only [World.size_alloc, Nat.add_assoc, Nat.reduceAdd] at q
    show IHolds _ _ _ _
    rw [hU1]
    exact q
  have B : Hid (Below w.heap.size w U1) := by
    show Below _ _ _
    rw [hU1]
    exact (((Below.refl _ w).alloc (Nat.le_refl _) _).alloc (by simp only [World.size_alloc]; omega) _)
  rw [← hU1]
  clear hU1
  have hb := dB U1
  replace B := aB B hb
  replace Jg := aJ Jg hb
  replace Ja := aJ Ja hb
  clear hb
  refine wp_region_held_drew (S := fun W => (IHolds W (w.heap.size) 34 [.int .i64 z]) ∧ (IHolds W (w.heap.size + 1) 24 [.string a, .string b])) (by kernel_rfl) ⟨Jg.out, Ja.out⟩ (fun hHeld1 => ?_)
  generalize U1.drew = U2 at *
  refine tk (i := 0) (v := .agg #[.int .i64 z]) rfl (by kernel_rfl) (fun _ _ _ h => h) rfl ?_ hHeld1 ?_
  · intro W hS; have zg_0 : W.cell? ⟨w.heap.size, 0, none⟩ = some (.int .i64 z) := IHolds.cell (l := [.int .i64 z]) (t := 34) (b := w.heap.size) (w := W) (hS.1) 0 (by simp); go_simp
  simp only [Act.put, y1, y2, y3, y4, y5, y6, y7]
  refine tk (i := 1) (v := .pointer (some ⟨w.heap.size + 1, 1, none⟩)) rfl (by kernel_rfl) (fun _ _ _ h => h) rfl ?_ hHeld1 ?_
  · intro W hS; go_simp
  simp only [Act.put, y1, y2, y3, y4, y5, y6, y7]
  refine tk (i := 3) (v := .agg #[.int .i64 z]) rfl (by kernel_rfl) (fun _ _ _ h => h) rfl ?_ hHeld1 ?_
  · intro W hS; have zg_0 : W.cell? ⟨w.heap.size, 0, none⟩ = some (.int .i64 z) := IHolds.cell (l := [.int .i64 z]) (t := 34) (b := w.heap.size) (w := W) (hS.1) 0 (by simp); go_simp
  simp only [Act.put, y1, y2, y3, y4, y5, y6, y7]
  refine tk (i := 4) (v := .agg #[.int .i64 z]) rfl (by kernel_rfl) (fun _ _ _ h => h) rfl ?_ hHeld1 ?_
  · intro W hS; have zg_0 : W.cell? ⟨w.heap.size, 0, none⟩ = some (.int .i64 z) := IHolds.cell (l := [.int .i64 z]) (t := 34) (b := w.heap.size) (w := W) (hS.1) 0 (by simp); go_simp
  simp only [Act.put, y1, y2, y3, y4, y5, y6, y7]
  refine tk (i := 5) (v := .pointer (some ⟨w.heap.size + 1, 0, none⟩)) rfl (by kernel_rfl) (fun _ _ _ h => h) rfl ?_ hHeld1 ?_
  · intro W hS; go_simp
  simp only [Act.put, y1, y2, y3, y4, y5, y6, y7]
  refine tk (i := 7) (v := .string s) rfl (by kernel_rfl) (fun _ _ _ h => h) rfl ?_ hHeld1 ?_
  · intro W hS; go_simp
  simp only [Act.put, y1, y2, y3, y4, y5, y6, y7]
  refine tk (i := 2) (v := .string b) rfl (by kernel_rfl) (fun _ _ _ h => h) rfl ?_ hHeld1 ?_
  · intro W hS; obtain ⟨za_0, za_1⟩ := c2 hS.2; go_simp
  simp only [Act.put, y1, y2, y3, y4, y5, y6, y7]
  refine tk (i := 6) (v := .string a) rfl (by kernel_rfl) (fun _ _ _ h => h) rfl ?_ hHeld1 ?_
  · intro W hS; obtain ⟨za_0, za_1⟩ := c2 hS.2; go_simp
  simp only [Act.put, y1, y2, y3, y4, y5, y6, y7]
  refine wpAnyH_ready (rs := [8]) (by kernel_rfl) (by simp) ?_
  refine AllReadyH.cons rfl (fun K hK => ?_) AllReadyH.nil
  clear hHeld1
  go_simp
  refine (C1.out U2).mono ?_
  rintro e U3 ⟨rfl, hb⟩
  replace B := aB B hb
  replace Jg := aJ Jg hb
  replace Ja := aJ Ja hb
  clear hb
  go_wp2_with fail
  refine hK.out _ _ (⟨Jg.out, Ja.out⟩) (fun hHeld2 => ?_)
  clear hK K
  try simp only [Act.put, y1, y2, y3, y4, y5, y6, y7]
  refine wpAnyH_ready (rs := [9]) (by kernel_rfl) (by simp) ?_
  refine AllReadyH.cons rfl (fun K hK => ?_) AllReadyH.nil
  clear hHeld2
  go_simp
  refine (C2.out U3).mono ?_
  rintro e U4 ⟨rfl, hb⟩
  replace B := aB B hb
  replace Jg := aJ Jg hb
  replace Ja := aJ Ja hb
  clear hb
  go_wp2_with fail
  refine hK.out _ _ (⟨Jg.out, Ja.out⟩) (fun hHeld3 => ?_)
  clear hK K
  try simp only [Act.put, y1, y2, y3, y4, y5, y6, y7]
  refine wpAnyH_ready (rs := [10]) (by kernel_rfl) (by simp) ?_
  refine AllReadyH.cons rfl (fun K hK => ?_) AllReadyH.nil
  clear hHeld3
  go_simp
  refine (C3.out U4).mono ?_
  rintro e U5 ⟨rfl, hb⟩
  replace B := aB B hb
  replace Jg := aJ Jg hb
  replace Ja := aJ Ja hb
  clear hb
  go_wp2_with fail
  refine hK.out _ _ (⟨Jg.out, Ja.out⟩) (fun hHeld4 => ?_)
  clear hK K
  try simp only [Act.put, y1, y2, y3, y4, y5, y6, y7]
  refine tk (i := 11) (v := .string q) rfl (by kernel_rfl) (fun _ _ _ h => h) rfl ?_ hHeld4 ?_
  · intro W hS; go_simp
  simp only [Act.put, y1, y2, y3, y4, y5, y6, y7]
  refine wpAnyH_done (by kernel_rfl) ?_ _
  clear hHeld4
  go_wp2_with fail
  go_ret
  exact ⟨rfl, B.out⟩
set_option maxRecDepth 100000 in
set_option maxHeartbeats 2000000 in
theorem hide21 {w : World} {z c : Int} {key x n b p q : ByteArray} (C1 : Hid (∀ W, Calls Tryz.prog 36 #[.agg #[.int .i64 z]] W fun e w' => e = .returned (.string b) ∧ Below W.heap.size W w')) (C2 : Hid (∀ W b1 b2, IHolds W b1 9 [.string b, .string key] → IHolds W b2 9 [.string x, .string n] → Calls Tryz.prog 35 #[.int .i64 z, .slice (some ⟨b1, 0, none⟩) 2 2, .slice (some ⟨b2, 0, none⟩) 2 2] W fun e w' => e = .returned (.tuple #[.string q, .int .i64 c]) ∧ Below W.heap.size W w')) (C3 : Hid (∀ W, Calls Tryz.prog 37 #[.agg #[.int .i64 z], .string b, .string n] W fun e w' => e = .returned (.string p) ∧ Below W.heap.size W w')) :
    Calls Tryz.prog 15 #[.agg #[.int .i64 z], .string key, .string x, .string n] w fun e w' => e = .returned (.agg #[.string p, .string q]) ∧ Below w.heap.size w w' := by
  go_enter Tryz.func15, Tryz.ntmps15
  go_wp2_with fail
  obtain ⟨U1, hU1⟩ : ∃ X, X = ((w.alloc (.cells #[.int .i64 z] 34)).alloc (.cells #[.string ⟨#[]⟩, .string ⟨#[]⟩] 24)) := ⟨_, rfl⟩
  have Jg : Hid (IHolds U1 (w.heap.size) 34 [.int .i64 z]) := by
    have q := IHolds.new w 34 [.int .i64 z]
    show IHolds _ _ _ _
    rw [hU1]
    exact (q.alloc _)
  have Jr : Hid (IHolds U1 (w.heap.size + 1) 24 [.string ⟨#[]⟩, .string ⟨#[]⟩]) := by
    have q := IHolds.new (w.alloc (.cells #[.int .i64 z] 34)) 24 [.string ⟨#[]⟩, .string ⟨#[]⟩]
    simp only [World.size_alloc, Nat.add_assoc, Nat.reduceAdd] at q
    show IHolds _ _ _ _
    rw [hU1]
    exact q
  have B : Hid (Below w.heap.size w U1) := by
    show Below _ _ _
    rw [hU1]
    exact (((Below.refl _ w).alloc (Nat.le_refl _) _).alloc (by simp only [World.size_alloc]; omega) _)
  rw [← hU1]
  clear hU1
  have hb := dB U1
  replace B := aB B hb
  replace Jg := aJ Jg hb
  replace Jr := aJ Jr hb
  clear hb
  refine wp_region_held_drew (S := fun W => (IHolds W (w.heap.size) 34 [.int .i64 z])) (by kernel_rfl) Jg.out (fun hHeld1 => ?_)
  generalize U1.drew = U2 at *
  refine tk (i := 0) (v := .pointer (some ⟨w.heap.size, 0, none⟩)) rfl (by kernel_rfl) (fun _ _ _ h => h) rfl ?_ hHeld1 ?_
  · intro W hS; go_simp
  simp only [Act.put, y1, y2, y3, y4, y5, y6, y7]
  refine tk (i := 2) (v := .agg #[.int .i64 z]) rfl (by kernel_rfl) (fun _ _ _ h => h) rfl ?_ hHeld1 ?_
  · intro W hS; have zg_0 : W.cell? ⟨w.heap.size, 0, none⟩ = some (.int .i64 z) := IHolds.cell (l := [.int .i64 z]) (t := 34) (b := w.heap.size) (w := W) (hS) 0 (by simp); go_simp
  simp only [Act.put, y1, y2, y3, y4, y5, y6, y7]
  refine tk (i := 4) (v := .string key) rfl (by kernel_rfl) (fun _ _ _ h => h) rfl ?_ hHeld1 ?_
  · intro W hS; go_simp
  simp only [Act.put, y1, y2, y3, y4, y5, y6, y7]
  refine tk (i := 6) (v := .string x) rfl (by kernel_rfl) (fun _ _ _ h => h) rfl ?_ hHeld1 ?_
  · intro W hS; go_simp
  simp only [Act.put, y1, y2, y3, y4, y5, y6, y7]
  refine tk (i := 7) (v := .string n) rfl (by kernel_rfl) (fun _ _ _ h => h) rfl ?_ hHeld1 ?_
  · intro W hS; go_simp
  simp only [Act.put, y1, y2, y3, y4, y5, y6, y7]
  refine tk (i := 1) (v := .int .i64 z) rfl (by kernel_rfl) (fun _ _ _ h => h) rfl ?_ hHeld1 ?_
  · intro W hS; have zg_0 : W.cell? ⟨w.heap.size, 0, none⟩ = some (.int .i64 z) := IHolds.cell (l := [.int .i64 z]) (t := 34) (b := w.heap.size) (w := W) (hS) 0 (by simp); go_simp
  simp only [Act.put, y1, y2, y3, y4, y5, y6, y7]
  refine wpAnyH_ready (rs := [3, 8]) (by kernel_rfl) (by simp) ?_
  refine AllReadyH.cons rfl (fun K hK => ?_) (AllReadyH.cons rfl (fun K hK => ?_) AllReadyH.nil)
  · clear hHeld1
    go_simp
    refine (C1.out U2).mono ?_
    rintro e U3 ⟨rfl, hb⟩
    replace B := aB B hb
    replace Jg := aJ Jg hb
    replace Jr := aJ Jr hb
    clear hb
    go_wp2_with fail
    refine hK.out _ _ (Jg.out) (fun hHeld2 => ?_)
    clear hK K
    try simp only [Act.put, y1, y2, y3, y4, y5, y6, y7]
    refine wpAnyH_ready (rs := [5, 8]) (by kernel_rfl) (by simp) ?_
    refine AllReadyH.cons rfl (fun K hK => ?_) (AllReadyH.cons rfl (fun K hK => ?_) AllReadyH.nil)
    · clear hHeld2
      go_simp
      have ne_g_k := nJ Jg
      have ne_r_k := nJ Jr
      have ge_k : Hid (w.heap.size ≤ U3.heap.size) := B.out.size
      have hb := nB U3 (.cells #[.string b, .string key] 9)
      have Jk : Hid (IHolds (U3.alloc (.cells #[.string b, .string key] 9)) U3.heap.size 9 [.string b, .string key]) := IHolds.new _ _ _
      replace B := aB B hb
      replace Jg := aJ Jg hb
      replace Jr := aJ Jr hb
      clear hb
      generalize (U3.alloc (.cells #[.string b, .string key] 9)) = U4 at *
      generalize U3.heap.size = b5 at *
      refine hK.out _ _ (Jg.out) (fun hHeld3 => ?_)
      clear hK K
      try simp only [Act.put, y1, y2, y3, y4, y5, y6, y7]
      refine wpAnyH_ready (rs := [8]) (by kernel_rfl) (by simp) ?_
      refine AllReadyH.cons rfl (fun K hK => ?_) AllReadyH.nil
      clear hHeld3
      go_simp
      have ne_g_m := nJ Jg
      have ne_r_m := nJ Jr
      have ne_k_m := nJ Jk
      have ge_m : Hid (w.heap.size ≤ U4.heap.size) := B.out.size
      have hb := nB U4 (.cells #[.string x, .string n] 9)
      have Jm : Hid (IHolds (U4.alloc (.cells #[.string x, .string n] 9)) U4.heap.size 9 [.string x, .string n]) := IHolds.new _ _ _
      replace B := aB B hb
      replace Jg := aJ Jg hb
      replace Jr := aJ Jr hb
      replace Jk := aJ Jk hb
      clear hb
      generalize (U4.alloc (.cells #[.string x, .string n] 9)) = U6 at *
      generalize U4.heap.size = b7 at *
      refine hK.out _ _ (Jg.out) (fun hHeld4 => ?_)
      clear hK K
      try simp only [Act.put, y1, y2, y3, y4, y5, y6, y7]
      refine wpAnyH_ready (rs := [9]) (by kernel_rfl) (by simp) ?_
      refine AllReadyH.cons rfl (fun K hK => ?_) AllReadyH.nil
      clear hHeld4
      go_simp
      refine (C2.out U6 _ _ Jk.out Jm.out).mono ?_
      rintro e U8 ⟨rfl, hb⟩
      replace B := aB B hb
      replace Jg := aJ Jg hb
      replace Jr := aJ Jr hb
      replace Jk := aJ Jk hb
      replace Jm := aJ Jm hb
      clear hb
      go_wp2_with fail
      refine hK.out _ _ (Jg.out) (fun hHeld5 => ?_)
      clear hK K
      try simp only [Act.put, y1, y2, y3, y4, y5, y6, y7]
      refine tk (i := 10) (v := .tuple #[.string q, .int .i64 c]) rfl (by kernel_rfl) (fun _ _ _ h => h) rfl ?_ hHeld5 ?_
      · intro W hS; go_simp
      simp only [Act.put, y1, y2, y3, y4, y5, y6, y7]
      refine tk (i := 11) (v := (.string q)) rfl (by kernel_rfl) (fun _ _ _ h => h) rfl ?_ hHeld5 ?_
      · intro W hS; go_simp
      simp only [Act.put, y1, y2, y3, y4, y5, y6, y7]
      refine tk (i := 12) (v := (.int .i64 c)) rfl (by kernel_rfl) (fun _ _ _ h => h) rfl ?_ hHeld5 ?_
      · intro W hS; go_simp
      simp only [Act.put, y1, y2, y3, y4, y5, y6, y7]
      refine tk (i := 13) (v := (.string q)) rfl (by kernel_rfl) (fun _ _ _ h => h) rfl ?_ hHeld5 ?_
      · intro W hS; go_simp
      simp only [Act.put, y1, y2, y3, y4, y5, y6, y7]
      refine tk (i := 14) (v := (.int .i64 c)) rfl (by kernel_rfl) (fun _ _ _ h => h) rfl ?_ hHeld5 ?_
      · intro W hS; go_simp
      simp only [Act.put, y1, y2, y3, y4, y5, y6, y7]
      refine wpAnyH_done (by kernel_rfl) ?_ _
      clear hHeld5
      go_wp2_with fail
      have hb := dB U8
      replace B := aB B hb
      replace Jg := aJ Jg hb
      replace Jr := aJ Jr hb
      replace Jk := aJ Jk hb
      replace Jm := aJ Jm hb
      clear hb
      refine wp_region_held_drew (S := fun W => (IHolds W (w.heap.size) 34 [.int .i64 z])) (by kernel_rfl) Jg.out (fun hHeld6 => ?_)
      generalize U8.drew = U9 at *
      refine tk (i := 0) (v := .agg #[.int .i64 z]) rfl (by kernel_rfl) (fun _ _ _ h => h) rfl ?_ hHeld6 ?_
      · intro W hS; have zg_0 : W.cell? ⟨w.heap.size, 0, none⟩ = some (.int .i64 z) := IHolds.cell (l := [.int .i64 z]) (t := 34) (b := w.heap.size) (w := W) (hS) 0 (by simp); go_simp
      simp only [Act.put, y1, y2, y3, y4, y5, y6, y7]
      refine tk (i := 1) (v := .agg #[.int .i64 z]) rfl (by kernel_rfl) (fun _ _ _ h => h) rfl ?_ hHeld6 ?_
      · intro W hS; have zg_0 : W.cell? ⟨w.heap.size, 0, none⟩ = some (.int .i64 z) := IHolds.cell (l := [.int .i64 z]) (t := 34) (b := w.heap.size) (w := W) (hS) 0 (by simp); go_simp
      simp only [Act.put, y1, y2, y3, y4, y5, y6, y7]
      refine tk (i := 3) (v := .string n) rfl (by kernel_rfl) (fun _ _ _ h => h) rfl ?_ hHeld6 ?_
      · intro W hS; go_simp
      simp only [Act.put, y1, y2, y3, y4, y5, y6, y7]
      refine tk (i := 5) (v := .string q) rfl (by kernel_rfl) (fun _ _ _ h => h) rfl ?_ hHeld6 ?_
      · intro W hS; go_simp
      simp only [Act.put, y1, y2, y3, y4, y5, y6, y7]
      refine wpAnyH_ready (rs := [2]) (by kernel_rfl) (by simp) ?_
      refine AllReadyH.cons rfl (fun K hK => ?_) AllReadyH.nil
      clear hHeld6
      go_simp
      refine (C1.out U9).mono ?_
      rintro e U10 ⟨rfl, hb⟩
      replace B := aB B hb
      replace Jg := aJ Jg hb
      replace Jr := aJ Jr hb
      replace Jk := aJ Jk hb
      replace Jm := aJ Jm hb
      clear hb
      go_wp2_with fail
      refine hK.out _ _ (Jg.out) (fun hHeld7 => ?_)
      clear hK K
      try simp only [Act.put, y1, y2, y3, y4, y5, y6, y7]
      refine wpAnyH_ready (rs := [4]) (by kernel_rfl) (by simp) ?_
      refine AllReadyH.cons rfl (fun K hK => ?_) AllReadyH.nil
      clear hHeld7
      go_simp
      refine (C3.out U10).mono ?_
      rintro e U11 ⟨rfl, hb⟩
      replace B := aB B hb
      replace Jg := aJ Jg hb
      replace Jr := aJ Jr hb
      replace Jk := aJ Jk hb
      replace Jm := aJ Jm hb
      clear hb
      go_wp2_with fail
      refine hK.out _ _ (Jg.out) (fun hHeld8 => ?_)
      clear hK K
      try simp only [Act.put, y1, y2, y3, y4, y5, y6, y7]
      refine tk (i := 6) (v := .agg #[.string p, .string q]) rfl (by kernel_rfl) (fun _ _ _ h => h) rfl ?_ hHeld8 ?_
      · intro W hS; go_simp
      simp only [Act.put, y1, y2, y3, y4, y5, y6, y7]
      refine wpAnyH_ready (rs := [7]) (by kernel_rfl) (by simp) ?_
      refine AllReadyH.cons rfl (fun K hK => ?_) AllReadyH.nil
      clear hHeld8
      obtain ⟨zr_0, zr_1⟩ := cJ Jr
      have f0 := fJ Jr
      have hBut : But (w.heap.size + 1) U11 ((U11.setCell ⟨w.heap.size + 1, 0, none⟩ (.string p)).setCell ⟨w.heap.size + 1, 1, none⟩ (.string q)) := (((But.refl _ U11).setCell 0 (.string p)).setCell 1 (.string q))
      have I4 : Hid (IHolds _ (w.heap.size + 1) 24 [.string p, .string q]) := ((Jr.out.set 0 (.string p)).set 1 (.string q))
      replace B : Hid (Below w.heap.size w ((U11.setCell ⟨w.heap.size + 1, 0, none⟩ (.string p)).setCell ⟨w.heap.size + 1, 1, none⟩ (.string q))) := ((B.out.setCell (by first | exact Nat.le_refl _ | exact ge_r.out | (show w.heap.size ≤ w.heap.size + 1; omega)) _).setCell (by first | exact Nat.le_refl _ | exact ge_r.out | (show w.heap.size ≤ w.heap.size + 1; omega)) _)
      replace Jg := tJ Jg hBut (by omega)
      replace Jk := tJ Jk hBut (fun h => ne_r_k.out h.symm)
      replace Jm := tJ Jm hBut (fun h => ne_r_m.out h.symm)
      replace Jr := I4
      clear I4 hBut
      go_simp
      try go_wp2_with fail
      clear zr_0 zr_1
      clear f0
      generalize ((U11.setCell ⟨w.heap.size + 1, 0, none⟩ (.string p)).setCell ⟨w.heap.size + 1, 1, none⟩ (.string q)) = U12 at *
      refine hK.out _ _ (Jg.out) (fun hHeld9 => ?_)
      clear hK K
      try simp only [Act.put, y1, y2, y3, y4, y5, y6, y7]
      refine wpAnyH_done (by kernel_rfl) ?_ _
      clear hHeld9
      go_wp2_with fail
      have E0 : Hid (U12.cell? ⟨w.heap.size + 1, 0, none⟩ = some (.string p)) := IHolds.cell (l := [.string p, .string q]) (t := 24) (b := w.heap.size + 1) (w := U12) Jr.out 0 (by simp)
      have E1 : Hid (U12.cell? ⟨w.heap.size + 1, 1, none⟩ = some (.string q)) := IHolds.cell (l := [.string p, .string q]) (t := 24) (b := w.heap.size + 1) (w := U12) Jr.out 1 (by simp)
      exact bodyPost_ret (v := .agg #[.string p, .string q]) (by simp [results, Tryz.results15, go_sem, E0.out, E1.out]) rfl ⟨rfl, B.out⟩
    · clear hHeld2
      go_simp
      have ne_g_m := nJ Jg
      have ne_r_m := nJ Jr
      have ge_m : Hid (w.heap.size ≤ U3.heap.size) := B.out.size
      have hb := nB U3 (.cells #[.string x, .string n] 9)
      have Jm : Hid (IHolds (U3.alloc (.cells #[.string x, .string n] 9)) U3.heap.size 9 [.string x, .string n]) := IHolds.new _ _ _
      replace B := aB B hb
      replace Jg := aJ Jg hb
      replace Jr := aJ Jr hb
      clear hb
      generalize (U3.alloc (.cells #[.string x, .string n] 9)) = U13 at *
      generalize U3.heap.size = b14 at *
      refine hK.out _ _ (Jg.out) (fun hHeld10 => ?_)
      clear hK K
      try simp only [Act.put, y1, y2, y3, y4, y5, y6, y7]
      refine wpAnyH_ready (rs := [5]) (by kernel_rfl) (by simp) ?_
      refine AllReadyH.cons rfl (fun K hK => ?_) AllReadyH.nil
      clear hHeld10
      go_simp
      have ne_g_k := nJ Jg
      have ne_r_k := nJ Jr
      have ne_m_k := nJ Jm
      have ge_k : Hid (w.heap.size ≤ U13.heap.size) := B.out.size
      have hb := nB U13 (.cells #[.string b, .string key] 9)
      have Jk : Hid (IHolds (U13.alloc (.cells #[.string b, .string key] 9)) U13.heap.size 9 [.string b, .string key]) := IHolds.new _ _ _
      replace B := aB B hb
      replace Jg := aJ Jg hb
      replace Jr := aJ Jr hb
      replace Jm := aJ Jm hb
      clear hb
      generalize (U13.alloc (.cells #[.string b, .string key] 9)) = U15 at *
      generalize U13.heap.size = b16 at *
      refine hK.out _ _ (Jg.out) (fun hHeld11 => ?_)
      clear hK K
      try simp only [Act.put, y1, y2, y3, y4, y5, y6, y7]
      refine wpAnyH_ready (rs := [9]) (by kernel_rfl) (by simp) ?_
      refine AllReadyH.cons rfl (fun K hK => ?_) AllReadyH.nil
      clear hHeld11
      go_simp
      refine (C2.out U15 _ _ Jk.out Jm.out).mono ?_
      rintro e U17 ⟨rfl, hb⟩
      replace B := aB B hb
      replace Jg := aJ Jg hb
      replace Jr := aJ Jr hb
      replace Jm := aJ Jm hb
      replace Jk := aJ Jk hb
      clear hb
      go_wp2_with fail
      refine hK.out _ _ (Jg.out) (fun hHeld12 => ?_)
      clear hK K
      try simp only [Act.put, y1, y2, y3, y4, y5, y6, y7]
      refine tk (i := 10) (v := .tuple #[.string q, .int .i64 c]) rfl (by kernel_rfl) (fun _ _ _ h => h) rfl ?_ hHeld12 ?_
      · intro W hS; go_simp
      simp only [Act.put, y1, y2, y3, y4, y5, y6, y7]
      refine tk (i := 11) (v := (.string q)) rfl (by kernel_rfl) (fun _ _ _ h => h) rfl ?_ hHeld12 ?_
      · intro W hS; go_simp
      simp only [Act.put, y1, y2, y3, y4, y5, y6, y7]
      refine tk (i := 12) (v := (.int .i64 c)) rfl (by kernel_rfl) (fun _ _ _ h => h) rfl ?_ hHeld12 ?_
      · intro W hS; go_simp
      simp only [Act.put, y1, y2, y3, y4, y5, y6, y7]
      refine tk (i := 13) (v := (.string q)) rfl (by kernel_rfl) (fun _ _ _ h => h) rfl ?_ hHeld12 ?_
      · intro W hS; go_simp
      simp only [Act.put, y1, y2, y3, y4, y5, y6, y7]
      refine tk (i := 14) (v := (.int .i64 c)) rfl (by kernel_rfl) (fun _ _ _ h => h) rfl ?_ hHeld12 ?_
      · intro W hS; go_simp
      simp only [Act.put, y1, y2, y3, y4, y5, y6, y7]
      refine wpAnyH_done (by kernel_rfl) ?_ _
      clear hHeld12
      go_wp2_with fail
      have hb := dB U17
      replace B := aB B hb
      replace Jg := aJ Jg hb
      replace Jr := aJ Jr hb
      replace Jm := aJ Jm hb
      replace Jk := aJ Jk hb
      clear hb
      refine wp_region_held_drew (S := fun W => (IHolds W (w.heap.size) 34 [.int .i64 z])) (by kernel_rfl) Jg.out (fun hHeld13 => ?_)
      generalize U17.drew = U18 at *
      refine tk (i := 0) (v := .agg #[.int .i64 z]) rfl (by kernel_rfl) (fun _ _ _ h => h) rfl ?_ hHeld13 ?_
      · intro W hS; have zg_0 : W.cell? ⟨w.heap.size, 0, none⟩ = some (.int .i64 z) := IHolds.cell (l := [.int .i64 z]) (t := 34) (b := w.heap.size) (w := W) (hS) 0 (by simp); go_simp
      simp only [Act.put, y1, y2, y3, y4, y5, y6, y7]
      refine tk (i := 1) (v := .agg #[.int .i64 z]) rfl (by kernel_rfl) (fun _ _ _ h => h) rfl ?_ hHeld13 ?_
      · intro W hS; have zg_0 : W.cell? ⟨w.heap.size, 0, none⟩ = some (.int .i64 z) := IHolds.cell (l := [.int .i64 z]) (t := 34) (b := w.heap.size) (w := W) (hS) 0 (by simp); go_simp
      simp only [Act.put, y1, y2, y3, y4, y5, y6, y7]
      refine tk (i := 3) (v := .string n) rfl (by kernel_rfl) (fun _ _ _ h => h) rfl ?_ hHeld13 ?_
      · intro W hS; go_simp
      simp only [Act.put, y1, y2, y3, y4, y5, y6, y7]
      refine tk (i := 5) (v := .string q) rfl (by kernel_rfl) (fun _ _ _ h => h) rfl ?_ hHeld13 ?_
      · intro W hS; go_simp
      simp only [Act.put, y1, y2, y3, y4, y5, y6, y7]
      refine wpAnyH_ready (rs := [2]) (by kernel_rfl) (by simp) ?_
      refine AllReadyH.cons rfl (fun K hK => ?_) AllReadyH.nil
      clear hHeld13
      go_simp
      refine (C1.out U18).mono ?_
      rintro e U19 ⟨rfl, hb⟩
      replace B := aB B hb
      replace Jg := aJ Jg hb
      replace Jr := aJ Jr hb
      replace Jm := aJ Jm hb
      replace Jk := aJ Jk hb
      clear hb
      go_wp2_with fail
      refine hK.out _ _ (Jg.out) (fun hHeld14 => ?_)
      clear hK K
      try simp only [Act.put, y1, y2, y3, y4, y5, y6, y7]
      refine wpAnyH_ready (rs := [4]) (by kernel_rfl) (by simp) ?_
      refine AllReadyH.cons rfl (fun K hK => ?_) AllReadyH.nil
      clear hHeld14
      go_simp
      refine (C3.out U19).mono ?_
      rintro e U20 ⟨rfl, hb⟩
      replace B := aB B hb
      replace Jg := aJ Jg hb
      replace Jr := aJ Jr hb
      replace Jm := aJ Jm hb
      replace Jk := aJ Jk hb
      clear hb
      go_wp2_with fail
      refine hK.out _ _ (Jg.out) (fun hHeld15 => ?_)
      clear hK K
      try simp only [Act.put, y1, y2, y3, y4, y5, y6, y7]
      refine tk (i := 6) (v := .agg #[.string p, .string q]) rfl (by kernel_rfl) (fun _ _ _ h => h) rfl ?_ hHeld15 ?_
      · intro W hS; go_simp
      simp only [Act.put, y1, y2, y3, y4, y5, y6, y7]
      refine wpAnyH_ready (rs := [7]) (by kernel_rfl) (by simp) ?_
      refine AllReadyH.cons rfl (fun K hK => ?_) AllReadyH.nil
      clear hHeld15
      obtain ⟨zr_0, zr_1⟩ := cJ Jr
      have f0 := fJ Jr
      have hBut : But (w.heap.size + 1) U20 ((U20.setCell ⟨w.heap.size + 1, 0, none⟩ (.string p)).setCell ⟨w.heap.size + 1, 1, none⟩ (.string q)) := (((But.refl _ U20).setCell 0 (.string p)).setCell 1 (.string q))
      have I4 : Hid (IHolds _ (w.heap.size + 1) 24 [.string p, .string q]) := ((Jr.out.set 0 (.string p)).set 1 (.string q))
      replace B : Hid (Below w.heap.size w ((U20.setCell ⟨w.heap.size + 1, 0, none⟩ (.string p)).setCell ⟨w.heap.size + 1, 1, none⟩ (.string q))) := ((B.out.setCell (by first | exact Nat.le_refl _ | exact ge_r.out | (show w.heap.size ≤ w.heap.size + 1; omega)) _).setCell (by first | exact Nat.le_refl _ | exact ge_r.out | (show w.heap.size ≤ w.heap.size + 1; omega)) _)
      replace Jg := tJ Jg hBut (by omega)
      replace Jm := tJ Jm hBut (fun h => ne_r_m.out h.symm)
      replace Jk := tJ Jk hBut (fun h => ne_r_k.out h.symm)
      replace Jr := I4
      clear I4 hBut
      go_simp
      try go_wp2_with fail
      clear zr_0 zr_1
      clear f0
      generalize ((U20.setCell ⟨w.heap.size + 1, 0, none⟩ (.string p)).setCell ⟨w.heap.size + 1, 1, none⟩ (.string q)) = U21 at *
      refine hK.out _ _ (Jg.out) (fun hHeld16 => ?_)
      clear hK K
      try simp only [Act.put, y1, y2, y3, y4, y5, y6, y7]
      refine wpAnyH_done (by kernel_rfl) ?_ _
      clear hHeld16
      go_wp2_with fail
      have E0 : Hid (U21.cell? ⟨w.heap.size + 1, 0, none⟩ = some (.string p)) := IHolds.cell (l := [.string p, .string q]) (t := 24) (b := w.heap.size + 1) (w := U21) Jr.out 0 (by simp)
      have E1 : Hid (U21.cell? ⟨w.heap.size + 1, 1, none⟩ = some (.string q)) := IHolds.cell (l := [.string p, .string q]) (t := 24) (b := w.heap.size + 1) (w := U21) Jr.out 1 (by simp)
      exact bodyPost_ret (v := .agg #[.string p, .string q]) (by simp [results, Tryz.results15, go_sem, E0.out, E1.out]) rfl ⟨rfl, B.out⟩
  · clear hHeld1
    go_simp
    have ne_g_m := nJ Jg
    have ne_r_m := nJ Jr
    have ge_m : Hid (w.heap.size ≤ U2.heap.size) := B.out.size
    have hb := nB U2 (.cells #[.string x, .string n] 9)
    have Jm : Hid (IHolds (U2.alloc (.cells #[.string x, .string n] 9)) U2.heap.size 9 [.string x, .string n]) := IHolds.new _ _ _
    replace B := aB B hb
    replace Jg := aJ Jg hb
    replace Jr := aJ Jr hb
    clear hb
    generalize (U2.alloc (.cells #[.string x, .string n] 9)) = U22 at *
    generalize U2.heap.size = b23 at *
    refine hK.out _ _ (Jg.out) (fun hHeld17 => ?_)
    clear hK K
    try simp only [Act.put, y1, y2, y3, y4, y5, y6, y7]
    refine wpAnyH_ready (rs := [3]) (by kernel_rfl) (by simp) ?_
    refine AllReadyH.cons rfl (fun K hK => ?_) AllReadyH.nil
    clear hHeld17
    go_simp
    refine (C1.out U22).mono ?_
    rintro e U24 ⟨rfl, hb⟩
    replace B := aB B hb
    replace Jg := aJ Jg hb
    replace Jr := aJ Jr hb
    replace Jm := aJ Jm hb
    clear hb
    go_wp2_with fail
    refine hK.out _ _ (Jg.out) (fun hHeld18 => ?_)
    clear hK K
    try simp only [Act.put, y1, y2, y3, y4, y5, y6, y7]
    refine wpAnyH_ready (rs := [5]) (by kernel_rfl) (by simp) ?_
    refine AllReadyH.cons rfl (fun K hK => ?_) AllReadyH.nil
    clear hHeld18
    go_simp
    have ne_g_k := nJ Jg
    have ne_r_k := nJ Jr
    have ne_m_k := nJ Jm
    have ge_k : Hid (w.heap.size ≤ U24.heap.size) := B.out.size
    have hb := nB U24 (.cells #[.string b, .string key] 9)
    have Jk : Hid (IHolds (U24.alloc (.cells #[.string b, .string key] 9)) U24.heap.size 9 [.string b, .string key]) := IHolds.new _ _ _
    replace B := aB B hb
    replace Jg := aJ Jg hb
    replace Jr := aJ Jr hb
    replace Jm := aJ Jm hb
    clear hb
    generalize (U24.alloc (.cells #[.string b, .string key] 9)) = U25 at *
    generalize U24.heap.size = b26 at *
    refine hK.out _ _ (Jg.out) (fun hHeld19 => ?_)
    clear hK K
    try simp only [Act.put, y1, y2, y3, y4, y5, y6, y7]
    refine wpAnyH_ready (rs := [9]) (by kernel_rfl) (by simp) ?_
    refine AllReadyH.cons rfl (fun K hK => ?_) AllReadyH.nil
    clear hHeld19
    go_simp
    refine (C2.out U25 _ _ Jk.out Jm.out).mono ?_
    rintro e U27 ⟨rfl, hb⟩
    replace B := aB B hb
    replace Jg := aJ Jg hb
    replace Jr := aJ Jr hb
    replace Jm := aJ Jm hb
    replace Jk := aJ Jk hb
    clear hb
    go_wp2_with fail
    refine hK.out _ _ (Jg.out) (fun hHeld20 => ?_)
    clear hK K
    try simp only [Act.put, y1, y2, y3, y4, y5, y6, y7]
    refine tk (i := 10) (v := .tuple #[.string q, .int .i64 c]) rfl (by kernel_rfl) (fun _ _ _ h => h) rfl ?_ hHeld20 ?_
    · intro W hS; go_simp
    simp only [Act.put, y1, y2, y3, y4, y5, y6, y7]
    refine tk (i := 11) (v := (.string q)) rfl (by kernel_rfl) (fun _ _ _ h => h) rfl ?_ hHeld20 ?_
    · intro W hS; go_simp
    simp only [Act.put, y1, y2, y3, y4, y5, y6, y7]
    refine tk (i := 12) (v := (.int .i64 c)) rfl (by kernel_rfl) (fun _ _ _ h => h) rfl ?_ hHeld20 ?_
    · intro W hS; go_simp
    simp only [Act.put, y1, y2, y3, y4, y5, y6, y7]
    refine tk (i := 13) (v := (.string q)) rfl (by kernel_rfl) (fun _ _ _ h => h) rfl ?_ hHeld20 ?_
    · intro W hS; go_simp
    simp only [Act.put, y1, y2, y3, y4, y5, y6, y7]
    refine tk (i := 14) (v := (.int .i64 c)) rfl (by kernel_rfl) (fun _ _ _ h => h) rfl ?_ hHeld20 ?_
    · intro W hS; go_simp
    simp only [Act.put, y1, y2, y3, y4, y5, y6, y7]
    refine wpAnyH_done (by kernel_rfl) ?_ _
    clear hHeld20
    go_wp2_with fail
    have hb := dB U27
    replace B := aB B hb
    replace Jg := aJ Jg hb
    replace Jr := aJ Jr hb
    replace Jm := aJ Jm hb
    replace Jk := aJ Jk hb
    clear hb
    refine wp_region_held_drew (S := fun W => (IHolds W (w.heap.size) 34 [.int .i64 z])) (by kernel_rfl) Jg.out (fun hHeld21 => ?_)
    generalize U27.drew = U28 at *
    refine tk (i := 0) (v := .agg #[.int .i64 z]) rfl (by kernel_rfl) (fun _ _ _ h => h) rfl ?_ hHeld21 ?_
    · intro W hS; have zg_0 : W.cell? ⟨w.heap.size, 0, none⟩ = some (.int .i64 z) := IHolds.cell (l := [.int .i64 z]) (t := 34) (b := w.heap.size) (w := W) (hS) 0 (by simp); go_simp
    simp only [Act.put, y1, y2, y3, y4, y5, y6, y7]
    refine tk (i := 1) (v := .agg #[.int .i64 z]) rfl (by kernel_rfl) (fun _ _ _ h => h) rfl ?_ hHeld21 ?_
    · intro W hS; have zg_0 : W.cell? ⟨w.heap.size, 0, none⟩ = some (.int .i64 z) := IHolds.cell (l := [.int .i64 z]) (t := 34) (b := w.heap.size) (w := W) (hS) 0 (by simp); go_simp
    simp only [Act.put, y1, y2, y3, y4, y5, y6, y7]
    refine tk (i := 3) (v := .string n) rfl (by kernel_rfl) (fun _ _ _ h => h) rfl ?_ hHeld21 ?_
    · intro W hS; go_simp
    simp only [Act.put, y1, y2, y3, y4, y5, y6, y7]
    refine tk (i := 5) (v := .string q) rfl (by kernel_rfl) (fun _ _ _ h => h) rfl ?_ hHeld21 ?_
    · intro W hS; go_simp
    simp only [Act.put, y1, y2, y3, y4, y5, y6, y7]
    refine wpAnyH_ready (rs := [2]) (by kernel_rfl) (by simp) ?_
    refine AllReadyH.cons rfl (fun K hK => ?_) AllReadyH.nil
    clear hHeld21
    go_simp
    refine (C1.out U28).mono ?_
    rintro e U29 ⟨rfl, hb⟩
    replace B := aB B hb
    replace Jg := aJ Jg hb
    replace Jr := aJ Jr hb
    replace Jm := aJ Jm hb
    replace Jk := aJ Jk hb
    clear hb
    go_wp2_with fail
    refine hK.out _ _ (Jg.out) (fun hHeld22 => ?_)
    clear hK K
    try simp only [Act.put, y1, y2, y3, y4, y5, y6, y7]
    refine wpAnyH_ready (rs := [4]) (by kernel_rfl) (by simp) ?_
    refine AllReadyH.cons rfl (fun K hK => ?_) AllReadyH.nil
    clear hHeld22
    go_simp
    refine (C3.out U29).mono ?_
    rintro e U30 ⟨rfl, hb⟩
    replace B := aB B hb
    replace Jg := aJ Jg hb
    replace Jr := aJ Jr hb
    replace Jm := aJ Jm hb
    replace Jk := aJ Jk hb
    clear hb
    go_wp2_with fail
    refine hK.out _ _ (Jg.out) (fun hHeld23 => ?_)
    clear hK K
    try simp only [Act.put, y1, y2, y3, y4, y5, y6, y7]
    refine tk (i := 6) (v := .agg #[.string p, .string q]) rfl (by kernel_rfl) (fun _ _ _ h => h) rfl ?_ hHeld23 ?_
    · intro W hS; go_simp
    simp only [Act.put, y1, y2, y3, y4, y5, y6, y7]
    refine wpAnyH_ready (rs := [7]) (by kernel_rfl) (by simp) ?_
    refine AllReadyH.cons rfl (fun K hK => ?_) AllReadyH.nil
    clear hHeld23
    obtain ⟨zr_0, zr_1⟩ := cJ Jr
    have f0 := fJ Jr
    have hBut : But (w.heap.size + 1) U30 ((U30.setCell ⟨w.heap.size + 1, 0, none⟩ (.string p)).setCell ⟨w.heap.size + 1, 1, none⟩ (.string q)) := (((But.refl _ U30).setCell 0 (.string p)).setCell 1 (.string q))
    have I4 : Hid (IHolds _ (w.heap.size + 1) 24 [.string p, .string q]) := ((Jr.out.set 0 (.string p)).set 1 (.string q))
    replace B : Hid (Below w.heap.size w ((U30.setCell ⟨w.heap.size + 1, 0, none⟩ (.string p)).setCell ⟨w.heap.size + 1, 1, none⟩ (.string q))) := ((B.out.setCell (by first | exact Nat.le_refl _ | exact ge_r.out | (show w.heap.size ≤ w.heap.size + 1; omega)) _).setCell (by first | exact Nat.le_refl _ | exact ge_r.out | (show w.heap.size ≤ w.heap.size + 1; omega)) _)
    replace Jg := tJ Jg hBut (by omega)
    replace Jm := tJ Jm hBut (fun h => ne_r_m.out h.symm)
    replace Jk := tJ Jk hBut (fun h => ne_r_k.out h.symm)
    replace Jr := I4
    clear I4 hBut
    go_simp
    try go_wp2_with fail
    clear zr_0 zr_1
    clear f0
    generalize ((U30.setCell ⟨w.heap.size + 1, 0, none⟩ (.string p)).setCell ⟨w.heap.size + 1, 1, none⟩ (.string q)) = U31 at *
    refine hK.out _ _ (Jg.out) (fun hHeld24 => ?_)
    clear hK K
    try simp only [Act.put, y1, y2, y3, y4, y5, y6, y7]
    refine wpAnyH_done (by kernel_rfl) ?_ _
    clear hHeld24
    go_wp2_with fail
    have E0 : Hid (U31.cell? ⟨w.heap.size + 1, 0, none⟩ = some (.string p)) := IHolds.cell (l := [.string p, .string q]) (t := 24) (b := w.heap.size + 1) (w := U31) Jr.out 0 (by simp)
    have E1 : Hid (U31.cell? ⟨w.heap.size + 1, 1, none⟩ = some (.string q)) := IHolds.cell (l := [.string p, .string q]) (t := 24) (b := w.heap.size + 1) (w := U31) Jr.out 1 (by simp)
    exact bodyPost_ret (v := .agg #[.string p, .string q]) (by simp [results, Tryz.results15, go_sem, E0.out, E1.out]) rfl ⟨rfl, B.out⟩
end Go.Proofs.YtohpbclofcflaaaGreat
namespace Go.Proofs.YtohpbclofcflaaaGreat
open Go.RowKit Go.Deep Go.PlainAid

set_option maxRecDepth 100000 in
set_option maxHeartbeats 2000000 in
theorem noCipher22 {w : World} {z : Int} {a b : ByteArray} (C1 : Hid (∀ W, Calls Tryz.prog 13 #[.agg #[.int .i64 z], .string a] W fun e w' => e = .returned (.bool false) ∧ Below W.heap.size W w')) (C2 : Hid (∀ W, Calls Tryz.prog 13 #[.agg #[.int .i64 z], .string b] W fun e w' => e = .returned (.bool false) ∧ Below W.heap.size W w')) :
    Calls Tryz.prog 27 #[.agg #[.int .i64 z], .agg #[.string a, .string b]] w fun e w' => e = .returned (.bool false) ∧ Below w.heap.size w w' := by
  go_enter Tryz.func27, Tryz.ntmps27
  go_wp2_with fail
  obtain ⟨U1, hU1⟩ : ∃ X, X = ((w.alloc (.cells #[.int .i64 z] 34)).alloc (.cells #[.string a, .string b] 24)) := ⟨_, rfl⟩
  have Jg : Hid (IHolds U1 (w.heap.size) 34 [.int .i64 z]) := by
    have q := IHolds.new w 34 [.int .i64 z]
    show IHolds _ _ _ _
    rw [hU1]
    exact (q.alloc _)
  have Ja : Hid (IHolds U1 (w.heap.size + 1) 24 [.string a, .string b]) := by
    have q := IHolds.new (w.alloc (.cells #[.int .i64 z] 34)) 24 [.string a, .string b]
    simp only [World.size_alloc, Nat.add_assoc, Nat.reduceAdd] at q
    show IHolds _ _ _ _
    rw [hU1]
    exact q
  have B : Hid (Below w.heap.size w U1) := by
    show Below _ _ _
    rw [hU1]
    exact (((Below.refl _ w).alloc (Nat.le_refl _) _).alloc (by simp only [World.size_alloc]; omega) _)
  rw [← hU1]
  clear hU1
  refine (C1.out U1).mono ?_
  rintro e U2 ⟨rfl, hb⟩
  replace B := aB B hb
  replace Jg := aJ Jg hb
  replace Ja := aJ Ja hb
  clear hb
  have zg_0 : U2.cell? ⟨w.heap.size, 0, none⟩ = some (.int .i64 z) := IHolds.cell (l := [.int .i64 z]) (t := 34) (b := w.heap.size) (w := U2) (Jg.out) 0 (by simp)
  obtain ⟨za_0, za_1⟩ := cJ Ja
  go_wp2_with fail
  clear zg_0 za_0 za_1
  refine (C2.out U2).mono ?_
  rintro e U3 ⟨rfl, hb⟩
  replace B := aB B hb
  replace Jg := aJ Jg hb
  replace Ja := aJ Ja hb
  clear hb
  go_wp2_with fail
  go_ret
  exact ⟨rfl, B.out⟩
set_option maxRecDepth 100000 in
set_option maxHeartbeats 2000000 in
theorem enc_none {w : World} {z c : Int} {key x n : ByteArray} (CG : Hid (∀ W, Calls Tryz.prog 12 #[.int .i64 z] W fun e w' => e = .returned (.tuple #[.agg #[.int .i64 z], .int .i64 c]) ∧ Below W.heap.size W w')) (hc : (c != 0) = true) :
    Calls Tryz.prog 4 #[.int .i64 z, .string key, .string x, .string n] w fun e w' => e = .returned (.tuple #[.agg #[.string ⟨#[]⟩, .string ⟨#[]⟩], .int .i64 c]) ∧ Below w.heap.size w w' := by
  go_enter Tryz.func4, Tryz.ntmps4
  go_wp2_with fail
  obtain ⟨U1, hU1⟩ : ∃ X, X = (w.alloc (.cells #[.string ⟨#[]⟩, .string ⟨#[]⟩] 24)) := ⟨_, rfl⟩
  have Jr : Hid (IHolds U1 (w.heap.size) 24 [.string ⟨#[]⟩, .string ⟨#[]⟩]) := by
    have q := IHolds.new w 24 [.string ⟨#[]⟩, .string ⟨#[]⟩]
    show IHolds _ _ _ _
    rw [hU1]
    exact q
  have B : Hid (Below w.heap.size w U1) := by
    show Below _ _ _
    rw [hU1]
    exact ((Below.refl _ w).alloc (Nat.le_refl _) _)
  rw [← hU1]
  clear hU1
  refine (CG.out U1).mono ?_
  rintro e U2 ⟨rfl, hb⟩
  replace B := aB B hb
  replace Jr := aJ Jr hb
  clear hb
  have hb := nB U2 (.cells #[.int .i64 z] 34)
  replace B := aB B hb
  replace Jr := aJ Jr hb
  clear hb
  obtain ⟨zr_0, zr_1⟩ := cJ Jr
  have f0 := fJ Jr
  have I4 : Hid (IHolds _ (w.heap.size) 24 [.string ⟨#[]⟩, .string ⟨#[]⟩]) := ((Jr.out.set 0 (.string ⟨#[]⟩)).set 1 (.string ⟨#[]⟩))
  replace B : Hid (Below w.heap.size w (((U2.alloc (.cells #[.int .i64 z] 34)).setCell ⟨w.heap.size, 0, none⟩ (.string ⟨#[]⟩)).setCell ⟨w.heap.size, 1, none⟩ (.string ⟨#[]⟩))) := ((B.out.setCell (Nat.le_refl _) _).setCell (Nat.le_refl _) _)
  replace Jr := I4
  go_wp2_with fail
  clear zr_0 zr_1
  clear f0
  generalize (((U2.alloc (.cells #[.int .i64 z] 34)).setCell ⟨w.heap.size, 0, none⟩ (.string ⟨#[]⟩)).setCell ⟨w.heap.size, 1, none⟩ (.string ⟨#[]⟩)) = U3 at *
  have E0 : Hid (U3.cell? ⟨w.heap.size, 0, none⟩ = some (.string ⟨#[]⟩)) := IHolds.cell (l := [.string ⟨#[]⟩, .string ⟨#[]⟩]) (t := 24) (b := w.heap.size) (w := U3) Jr.out 0 (by simp)
  have E0 : Hid (U3.cell? ⟨w.heap.size, 0, none⟩ = some (.string ⟨#[]⟩)) := IHolds.cell (l := [.string ⟨#[]⟩, .string ⟨#[]⟩]) (t := 24) (b := w.heap.size) (w := U3) Jr.out 0 (by simp)
  have E1 : Hid (U3.cell? ⟨w.heap.size, 1, none⟩ = some (.string ⟨#[]⟩)) := IHolds.cell (l := [.string ⟨#[]⟩, .string ⟨#[]⟩]) (t := 24) (b := w.heap.size) (w := U3) Jr.out 1 (by simp)
  exact bodyPost_ret (v := .tuple #[.agg #[.string ⟨#[]⟩, .string ⟨#[]⟩], .int .i64 c]) (by simp [results, Tryz.results4, go_sem, E0.out, E1.out]) rfl ⟨rfl, B.out⟩
set_option maxRecDepth 100000 in
set_option maxHeartbeats 2000000 in
theorem enc_elem {w : World} {z : Int} {key x n : ByteArray} (CG : Hid (∀ W, Calls Tryz.prog 12 #[.int .i64 z] W fun e w' => e = .returned (.tuple #[.agg #[.int .i64 z], .int .i64 0]) ∧ Below W.heap.size W w')) (C1 : Hid (∀ W, Calls Tryz.prog 13 #[.agg #[.int .i64 z], .string key] W fun e w' => e = .returned (.bool true) ∧ Below W.heap.size W w')) :
    Calls Tryz.prog 4 #[.int .i64 z, .string key, .string x, .string n] w fun e w' => e = .returned (.tuple #[.agg #[.string ⟨#[]⟩, .string ⟨#[]⟩], .int .i64 7]) ∧ Below w.heap.size w w' := by
  go_enter Tryz.func4, Tryz.ntmps4
  go_wp2_with fail
  obtain ⟨U1, hU1⟩ : ∃ X, X = (w.alloc (.cells #[.string ⟨#[]⟩, .string ⟨#[]⟩] 24)) := ⟨_, rfl⟩
  have Jr : Hid (IHolds U1 (w.heap.size) 24 [.string ⟨#[]⟩, .string ⟨#[]⟩]) := by
    have q := IHolds.new w 24 [.string ⟨#[]⟩, .string ⟨#[]⟩]
    show IHolds _ _ _ _
    rw [hU1]
    exact q
  have B : Hid (Below w.heap.size w U1) := by
    show Below _ _ _
    rw [hU1]
    exact ((Below.refl _ w).alloc (Nat.le_refl _) _)
  rw [← hU1]
  clear hU1
  refine (CG.out U1).mono ?_
  rintro e U2 ⟨rfl, hb⟩
  replace B := aB B hb
  replace Jr := aJ Jr hb
  clear hb
  have hb := nB U2 (.cells #[.int .i64 z] 34)
  have Jg : Hid (IHolds (U2.alloc (.cells #[.int .i64 z] 34)) U2.heap.size 34 [.int .i64 z]) := IHolds.new _ _ _
  have ne_r_g := nJ Jr
  have ge_g : Hid (w.heap.size ≤ U2.heap.size) := B.out.size
  replace B := aB B hb
  replace Jr := aJ Jr hb
  clear hb
  go_wp2_with fail
  generalize (U2.alloc (.cells #[.int .i64 z] 34)) = U3 at *
  generalize U2.heap.size = b4 at *
  refine (C1.out U3).mono ?_
  rintro e U5 ⟨rfl, hb⟩
  replace B := aB B hb
  replace Jr := aJ Jr hb
  replace Jg := aJ Jg hb
  clear hb
  obtain ⟨zr_0, zr_1⟩ := cJ Jr
  have f0 := fJ Jr
  have hBut : But (w.heap.size) U5 ((U5.setCell ⟨w.heap.size, 0, none⟩ (.string ⟨#[]⟩)).setCell ⟨w.heap.size, 1, none⟩ (.string ⟨#[]⟩)) := (((But.refl _ U5).setCell 0 (.string ⟨#[]⟩)).setCell 1 (.string ⟨#[]⟩))
  have I4 : Hid (IHolds _ (w.heap.size) 24 [.string ⟨#[]⟩, .string ⟨#[]⟩]) := ((Jr.out.set 0 (.string ⟨#[]⟩)).set 1 (.string ⟨#[]⟩))
  replace B : Hid (Below w.heap.size w ((U5.setCell ⟨w.heap.size, 0, none⟩ (.string ⟨#[]⟩)).setCell ⟨w.heap.size, 1, none⟩ (.string ⟨#[]⟩))) := ((B.out.setCell (by first | exact Nat.le_refl _ | exact ge_r.out | (show w.heap.size ≤ w.heap.size; omega)) _).setCell (by first | exact Nat.le_refl _ | exact ge_r.out | (show w.heap.size ≤ w.heap.size; omega)) _)
  replace Jg := tJ Jg hBut (fun h => ne_r_g.out h.symm)
  replace Jr := I4
  clear I4 hBut
  go_wp2_with fail
  clear zr_0 zr_1
  clear f0
  generalize ((U5.setCell ⟨w.heap.size, 0, none⟩ (.string ⟨#[]⟩)).setCell ⟨w.heap.size, 1, none⟩ (.string ⟨#[]⟩)) = U6 at *
  have E0 : Hid (U6.cell? ⟨w.heap.size, 0, none⟩ = some (.string ⟨#[]⟩)) := IHolds.cell (l := [.string ⟨#[]⟩, .string ⟨#[]⟩]) (t := 24) (b := w.heap.size) (w := U6) Jr.out 0 (by simp)
  have E1 : Hid (U6.cell? ⟨w.heap.size, 1, none⟩ = some (.string ⟨#[]⟩)) := IHolds.cell (l := [.string ⟨#[]⟩, .string ⟨#[]⟩]) (t := 24) (b := w.heap.size) (w := U6) Jr.out 1 (by simp)
  exact bodyPost_ret (v := .tuple #[.agg #[.string ⟨#[]⟩, .string ⟨#[]⟩], .int .i64 7]) (by simp [results, Tryz.results4, go_sem, E0.out, E1.out]) rfl ⟨rfl, B.out⟩
set_option maxRecDepth 100000 in
set_option maxHeartbeats 2000000 in
theorem enc_sc1 {w : World} {z : Int} {key x n : ByteArray} (CG : Hid (∀ W, Calls Tryz.prog 12 #[.int .i64 z] W fun e w' => e = .returned (.tuple #[.agg #[.int .i64 z], .int .i64 0]) ∧ Below W.heap.size W w')) (C1 : Hid (∀ W, Calls Tryz.prog 13 #[.agg #[.int .i64 z], .string key] W fun e w' => e = .returned (.bool false) ∧ Below W.heap.size W w')) (C2 : Hid (∀ W, Calls Tryz.prog 14 #[.agg #[.int .i64 z], .string x] W fun e w' => e = .returned (.bool true) ∧ Below W.heap.size W w')) :
    Calls Tryz.prog 4 #[.int .i64 z, .string key, .string x, .string n] w fun e w' => e = .returned (.tuple #[.agg #[.string ⟨#[]⟩, .string ⟨#[]⟩], .int .i64 6]) ∧ Below w.heap.size w w' := by
  go_enter Tryz.func4, Tryz.ntmps4
  go_wp2_with fail
  obtain ⟨U1, hU1⟩ : ∃ X, X = (w.alloc (.cells #[.string ⟨#[]⟩, .string ⟨#[]⟩] 24)) := ⟨_, rfl⟩
  have Jr : Hid (IHolds U1 (w.heap.size) 24 [.string ⟨#[]⟩, .string ⟨#[]⟩]) := by
    have q := IHolds.new w 24 [.string ⟨#[]⟩, .string ⟨#[]⟩]
    show IHolds _ _ _ _
    rw [hU1]
    exact q
  have B : Hid (Below w.heap.size w U1) := by
    show Below _ _ _
    rw [hU1]
    exact ((Below.refl _ w).alloc (Nat.le_refl _) _)
  rw [← hU1]
  clear hU1
  refine (CG.out U1).mono ?_
  rintro e U2 ⟨rfl, hb⟩
  replace B := aB B hb
  replace Jr := aJ Jr hb
  clear hb
  have hb := nB U2 (.cells #[.int .i64 z] 34)
  have Jg : Hid (IHolds (U2.alloc (.cells #[.int .i64 z] 34)) U2.heap.size 34 [.int .i64 z]) := IHolds.new _ _ _
  have ne_r_g := nJ Jr
  have ge_g : Hid (w.heap.size ≤ U2.heap.size) := B.out.size
  replace B := aB B hb
  replace Jr := aJ Jr hb
  clear hb
  go_wp2_with fail
  generalize (U2.alloc (.cells #[.int .i64 z] 34)) = U3 at *
  generalize U2.heap.size = b4 at *
  refine (C1.out U3).mono ?_
  rintro e U5 ⟨rfl, hb⟩
  replace B := aB B hb
  replace Jr := aJ Jr hb
  replace Jg := aJ Jg hb
  clear hb
  have zg_0 : U5.cell? ⟨b4, 0, none⟩ = some (.int .i64 z) := IHolds.cell (l := [.int .i64 z]) (t := 34) (b := b4) (w := U5) (Jg.out) 0 (by simp)
  go_wp2_with fail
  clear zg_0
  refine (C2.out U5).mono ?_
  rintro e U6 ⟨rfl, hb⟩
  replace B := aB B hb
  replace Jr := aJ Jr hb
  replace Jg := aJ Jg hb
  clear hb
  obtain ⟨zr_0, zr_1⟩ := cJ Jr
  have f0 := fJ Jr
  have hBut : But (w.heap.size) U6 ((U6.setCell ⟨w.heap.size, 0, none⟩ (.string ⟨#[]⟩)).setCell ⟨w.heap.size, 1, none⟩ (.string ⟨#[]⟩)) := (((But.refl _ U6).setCell 0 (.string ⟨#[]⟩)).setCell 1 (.string ⟨#[]⟩))
  have I4 : Hid (IHolds _ (w.heap.size) 24 [.string ⟨#[]⟩, .string ⟨#[]⟩]) := ((Jr.out.set 0 (.string ⟨#[]⟩)).set 1 (.string ⟨#[]⟩))
  replace B : Hid (Below w.heap.size w ((U6.setCell ⟨w.heap.size, 0, none⟩ (.string ⟨#[]⟩)).setCell ⟨w.heap.size, 1, none⟩ (.string ⟨#[]⟩))) := ((B.out.setCell (by first | exact Nat.le_refl _ | exact ge_r.out | (show w.heap.size ≤ w.heap.size; omega)) _).setCell (by first | exact Nat.le_refl _ | exact ge_r.out | (show w.heap.size ≤ w.heap.size; omega)) _)
  replace Jg := tJ Jg hBut (fun h => ne_r_g.out h.symm)
  replace Jr := I4
  clear I4 hBut
  go_wp2_with fail
  clear zr_0 zr_1
  clear f0
  generalize ((U6.setCell ⟨w.heap.size, 0, none⟩ (.string ⟨#[]⟩)).setCell ⟨w.heap.size, 1, none⟩ (.string ⟨#[]⟩)) = U7 at *
  have E0 : Hid (U7.cell? ⟨w.heap.size, 0, none⟩ = some (.string ⟨#[]⟩)) := IHolds.cell (l := [.string ⟨#[]⟩, .string ⟨#[]⟩]) (t := 24) (b := w.heap.size) (w := U7) Jr.out 0 (by simp)
  have E1 : Hid (U7.cell? ⟨w.heap.size, 1, none⟩ = some (.string ⟨#[]⟩)) := IHolds.cell (l := [.string ⟨#[]⟩, .string ⟨#[]⟩]) (t := 24) (b := w.heap.size) (w := U7) Jr.out 1 (by simp)
  exact bodyPost_ret (v := .tuple #[.agg #[.string ⟨#[]⟩, .string ⟨#[]⟩], .int .i64 6]) (by simp [results, Tryz.results4, go_sem, E0.out, E1.out]) rfl ⟨rfl, B.out⟩
set_option maxRecDepth 100000 in
set_option maxHeartbeats 2000000 in
theorem enc_sc2 {w : World} {z : Int} {key x n : ByteArray} (CG : Hid (∀ W, Calls Tryz.prog 12 #[.int .i64 z] W fun e w' => e = .returned (.tuple #[.agg #[.int .i64 z], .int .i64 0]) ∧ Below W.heap.size W w')) (C1 : Hid (∀ W, Calls Tryz.prog 13 #[.agg #[.int .i64 z], .string key] W fun e w' => e = .returned (.bool false) ∧ Below W.heap.size W w')) (C2 : Hid (∀ W, Calls Tryz.prog 14 #[.agg #[.int .i64 z], .string x] W fun e w' => e = .returned (.bool false) ∧ Below W.heap.size W w')) (C3 : Hid (∀ W, Calls Tryz.prog 14 #[.agg #[.int .i64 z], .string n] W fun e w' => e = .returned (.bool true) ∧ Below W.heap.size W w')) :
    Calls Tryz.prog 4 #[.int .i64 z, .string key, .string x, .string n] w fun e w' => e = .returned (.tuple #[.agg #[.string ⟨#[]⟩, .string ⟨#[]⟩], .int .i64 6]) ∧ Below w.heap.size w w' := by
  go_enter Tryz.func4, Tryz.ntmps4
  go_wp2_with fail
  obtain ⟨U1, hU1⟩ : ∃ X, X = (w.alloc (.cells #[.string ⟨#[]⟩, .string ⟨#[]⟩] 24)) := ⟨_, rfl⟩
  have Jr : Hid (IHolds U1 (w.heap.size) 24 [.string ⟨#[]⟩, .string ⟨#[]⟩]) := by
    have q := IHolds.new w 24 [.string ⟨#[]⟩, .string ⟨#[]⟩]
    show IHolds _ _ _ _
    rw [hU1]
    exact q
  have B : Hid (Below w.heap.size w U1) := by
    show Below _ _ _
    rw [hU1]
    exact ((Below.refl _ w).alloc (Nat.le_refl _) _)
  rw [← hU1]
  clear hU1
  refine (CG.out U1).mono ?_
  rintro e U2 ⟨rfl, hb⟩
  replace B := aB B hb
  replace Jr := aJ Jr hb
  clear hb
  have hb := nB U2 (.cells #[.int .i64 z] 34)
  have Jg : Hid (IHolds (U2.alloc (.cells #[.int .i64 z] 34)) U2.heap.size 34 [.int .i64 z]) := IHolds.new _ _ _
  have ne_r_g := nJ Jr
  have ge_g : Hid (w.heap.size ≤ U2.heap.size) := B.out.size
  replace B := aB B hb
  replace Jr := aJ Jr hb
  clear hb
  go_wp2_with fail
  generalize (U2.alloc (.cells #[.int .i64 z] 34)) = U3 at *
  generalize U2.heap.size = b4 at *
  refine (C1.out U3).mono ?_
  rintro e U5 ⟨rfl, hb⟩
  replace B := aB B hb
  replace Jr := aJ Jr hb
  replace Jg := aJ Jg hb
  clear hb
  have zg_0 : U5.cell? ⟨b4, 0, none⟩ = some (.int .i64 z) := IHolds.cell (l := [.int .i64 z]) (t := 34) (b := b4) (w := U5) (Jg.out) 0 (by simp)
  go_wp2_with fail
  clear zg_0
  refine (C2.out U5).mono ?_
  rintro e U6 ⟨rfl, hb⟩
  replace B := aB B hb
  replace Jr := aJ Jr hb
  replace Jg := aJ Jg hb
  clear hb
  have zg_0 : U6.cell? ⟨b4, 0, none⟩ = some (.int .i64 z) := IHolds.cell (l := [.int .i64 z]) (t := 34) (b := b4) (w := U6) (Jg.out) 0 (by simp)
  go_wp2_with fail
  clear zg_0
  refine (C3.out U6).mono ?_
  rintro e U7 ⟨rfl, hb⟩
  replace B := aB B hb
  replace Jr := aJ Jr hb
  replace Jg := aJ Jg hb
  clear hb
  obtain ⟨zr_0, zr_1⟩ := cJ Jr
  have f0 := fJ Jr
  have hBut : But (w.heap.size) U7 ((U7.setCell ⟨w.heap.size, 0, none⟩ (.string ⟨#[]⟩)).setCell ⟨w.heap.size, 1, none⟩ (.string ⟨#[]⟩)) := (((But.refl _ U7).setCell 0 (.string ⟨#[]⟩)).setCell 1 (.string ⟨#[]⟩))
  have I4 : Hid (IHolds _ (w.heap.size) 24 [.string ⟨#[]⟩, .string ⟨#[]⟩]) := ((Jr.out.set 0 (.string ⟨#[]⟩)).set 1 (.string ⟨#[]⟩))
  replace B : Hid (Below w.heap.size w ((U7.setCell ⟨w.heap.size, 0, none⟩ (.string ⟨#[]⟩)).setCell ⟨w.heap.size, 1, none⟩ (.string ⟨#[]⟩))) := ((B.out.setCell (by first | exact Nat.le_refl _ | exact ge_r.out | (show w.heap.size ≤ w.heap.size; omega)) _).setCell (by first | exact Nat.le_refl _ | exact ge_r.out | (show w.heap.size ≤ w.heap.size; omega)) _)
  replace Jg := tJ Jg hBut (fun h => ne_r_g.out h.symm)
  replace Jr := I4
  clear I4 hBut
  go_wp2_with fail
  clear zr_0 zr_1
  clear f0
  generalize ((U7.setCell ⟨w.heap.size, 0, none⟩ (.string ⟨#[]⟩)).setCell ⟨w.heap.size, 1, none⟩ (.string ⟨#[]⟩)) = U8 at *
  have E0 : Hid (U8.cell? ⟨w.heap.size, 0, none⟩ = some (.string ⟨#[]⟩)) := IHolds.cell (l := [.string ⟨#[]⟩, .string ⟨#[]⟩]) (t := 24) (b := w.heap.size) (w := U8) Jr.out 0 (by simp)
  have E1 : Hid (U8.cell? ⟨w.heap.size, 1, none⟩ = some (.string ⟨#[]⟩)) := IHolds.cell (l := [.string ⟨#[]⟩, .string ⟨#[]⟩]) (t := 24) (b := w.heap.size) (w := U8) Jr.out 1 (by simp)
  exact bodyPost_ret (v := .tuple #[.agg #[.string ⟨#[]⟩, .string ⟨#[]⟩], .int .i64 6]) (by simp [results, Tryz.results4, go_sem, E0.out, E1.out]) rfl ⟨rfl, B.out⟩
set_option maxRecDepth 100000 in
set_option maxHeartbeats 2000000 in
theorem enc_ok {w : World} {z : Int} {key x n p q : ByteArray} (CG : Hid (∀ W, Calls Tryz.prog 12 #[.int .i64 z] W fun e w' => e = .returned (.tuple #[.agg #[.int .i64 z], .int .i64 0]) ∧ Below W.heap.size W w')) (C1 : Hid (∀ W, Calls Tryz.prog 13 #[.agg #[.int .i64 z], .string key] W fun e w' => e = .returned (.bool false) ∧ Below W.heap.size W w')) (C2 : Hid (∀ W, Calls Tryz.prog 14 #[.agg #[.int .i64 z], .string x] W fun e w' => e = .returned (.bool false) ∧ Below W.heap.size W w')) (C3 : Hid (∀ W, Calls Tryz.prog 14 #[.agg #[.int .i64 z], .string n] W fun e w' => e = .returned (.bool false) ∧ Below W.heap.size W w')) (C4 : Hid (∀ W, Calls Tryz.prog 15 #[.agg #[.int .i64 z], .string key, .string x, .string n] W fun e w' => e = .returned (.agg #[.string p, .string q]) ∧ Below W.heap.size W w')) :
    Calls Tryz.prog 4 #[.int .i64 z, .string key, .string x, .string n] w fun e w' => e = .returned (.tuple #[.agg #[.string p, .string q], .int .i64 0]) ∧ Below w.heap.size w w' := by
  go_enter Tryz.func4, Tryz.ntmps4
  go_wp2_with fail
  obtain ⟨U1, hU1⟩ : ∃ X, X = (w.alloc (.cells #[.string ⟨#[]⟩, .string ⟨#[]⟩] 24)) := ⟨_, rfl⟩
  have Jr : Hid (IHolds U1 (w.heap.size) 24 [.string ⟨#[]⟩, .string ⟨#[]⟩]) := by
    have q := IHolds.new w 24 [.string ⟨#[]⟩, .string ⟨#[]⟩]
    show IHolds _ _ _ _
    rw [hU1]
    exact q
  have B : Hid (Below w.heap.size w U1) := by
    show Below _ _ _
    rw [hU1]
    exact ((Below.refl _ w).alloc (Nat.le_refl _) _)
  rw [← hU1]
  clear hU1
  refine (CG.out U1).mono ?_
  rintro e U2 ⟨rfl, hb⟩
  replace B := aB B hb
  replace Jr := aJ Jr hb
  clear hb
  have hb := nB U2 (.cells #[.int .i64 z] 34)
  have Jg : Hid (IHolds (U2.alloc (.cells #[.int .i64 z] 34)) U2.heap.size 34 [.int .i64 z]) := IHolds.new _ _ _
  have ne_r_g := nJ Jr
  have ge_g : Hid (w.heap.size ≤ U2.heap.size) := B.out.size
  replace B := aB B hb
  replace Jr := aJ Jr hb
  clear hb
  go_wp2_with fail
  generalize (U2.alloc (.cells #[.int .i64 z] 34)) = U3 at *
  generalize U2.heap.size = b4 at *
  refine (C1.out U3).mono ?_
  rintro e U5 ⟨rfl, hb⟩
  replace B := aB B hb
  replace Jr := aJ Jr hb
  replace Jg := aJ Jg hb
  clear hb
  have zg_0 : U5.cell? ⟨b4, 0, none⟩ = some (.int .i64 z) := IHolds.cell (l := [.int .i64 z]) (t := 34) (b := b4) (w := U5) (Jg.out) 0 (by simp)
  go_wp2_with fail
  clear zg_0
  refine (C2.out U5).mono ?_
  rintro e U6 ⟨rfl, hb⟩
  replace B := aB B hb
  replace Jr := aJ Jr hb
  replace Jg := aJ Jg hb
  clear hb
  have zg_0 : U6.cell? ⟨b4, 0, none⟩ = some (.int .i64 z) := IHolds.cell (l := [.int .i64 z]) (t := 34) (b := b4) (w := U6) (Jg.out) 0 (by simp)
  go_wp2_with fail
  clear zg_0
  refine (C3.out U6).mono ?_
  rintro e U7 ⟨rfl, hb⟩
  replace B := aB B hb
  replace Jr := aJ Jr hb
  replace Jg := aJ Jg hb
  clear hb
  have zg_0 : U7.cell? ⟨b4, 0, none⟩ = some (.int .i64 z) := IHolds.cell (l := [.int .i64 z]) (t := 34) (b := b4) (w := U7) (Jg.out) 0 (by simp)
  go_wp2_with fail
  clear zg_0
  refine (C4.out U7).mono ?_
  rintro e U8 ⟨rfl, hb⟩
  replace B := aB B hb
  replace Jr := aJ Jr hb
  replace Jg := aJ Jg hb
  clear hb
  obtain ⟨zr_0, zr_1⟩ := cJ Jr
  have f0 := fJ Jr
  have hBut : But (w.heap.size) U8 ((U8.setCell ⟨w.heap.size, 0, none⟩ (.string p)).setCell ⟨w.heap.size, 1, none⟩ (.string q)) := (((But.refl _ U8).setCell 0 (.string p)).setCell 1 (.string q))
  have I4 : Hid (IHolds _ (w.heap.size) 24 [.string p, .string q]) := ((Jr.out.set 0 (.string p)).set 1 (.string q))
  replace B : Hid (Below w.heap.size w ((U8.setCell ⟨w.heap.size, 0, none⟩ (.string p)).setCell ⟨w.heap.size, 1, none⟩ (.string q))) := ((B.out.setCell (by first | exact Nat.le_refl _ | exact ge_r.out | (show w.heap.size ≤ w.heap.size; omega)) _).setCell (by first | exact Nat.le_refl _ | exact ge_r.out | (show w.heap.size ≤ w.heap.size; omega)) _)
  replace Jg := tJ Jg hBut (fun h => ne_r_g.out h.symm)
  replace Jr := I4
  clear I4 hBut
  go_wp2_with fail
  clear zr_0 zr_1
  clear f0
  generalize ((U8.setCell ⟨w.heap.size, 0, none⟩ (.string p)).setCell ⟨w.heap.size, 1, none⟩ (.string q)) = U9 at *
  have E0 : Hid (U9.cell? ⟨w.heap.size, 0, none⟩ = some (.string p)) := IHolds.cell (l := [.string p, .string q]) (t := 24) (b := w.heap.size) (w := U9) Jr.out 0 (by simp)
  have E1 : Hid (U9.cell? ⟨w.heap.size, 1, none⟩ = some (.string q)) := IHolds.cell (l := [.string p, .string q]) (t := 24) (b := w.heap.size) (w := U9) Jr.out 1 (by simp)
  exact bodyPost_ret (v := .tuple #[.agg #[.string p, .string q], .int .i64 0]) (by simp [results, Tryz.results4, go_sem, E0.out, E1.out]) rfl ⟨rfl, B.out⟩
set_option maxRecDepth 100000 in
set_option maxHeartbeats 2000000 in
theorem dec_ok {w : World} {z : Int} {a b s r : ByteArray} (CG : Hid (∀ W, Calls Tryz.prog 12 #[.int .i64 z] W fun e w' => e = .returned (.tuple #[.agg #[.int .i64 z], .int .i64 0]) ∧ Below W.heap.size W w')) (C1 : Hid (∀ W, Calls Tryz.prog 14 #[.agg #[.int .i64 z], .string s] W fun e w' => e = .returned (.bool false) ∧ Below W.heap.size W w')) (C2 : Hid (∀ W, Calls Tryz.prog 27 #[.agg #[.int .i64 z], .agg #[.string a, .string b]] W fun e w' => e = .returned (.bool false) ∧ Below W.heap.size W w')) (C3 : Hid (∀ W, Calls Tryz.prog 30 #[.agg #[.int .i64 z], .string s, .agg #[.string a, .string b]] W fun e w' => e = .returned (.string r) ∧ Below W.heap.size W w')) :
    Calls Tryz.prog 10 #[.int .i64 z, .string s, .agg #[.string a, .string b]] w fun e w' => e = .returned (.tuple #[.string r, .int .i64 0]) ∧ Below w.heap.size w w' := by
  go_enter Tryz.func10, Tryz.ntmps10
  go_wp2_with fail
  obtain ⟨U1, hU1⟩ : ∃ X, X = (w.alloc (.cells #[.string a, .string b] 24)) := ⟨_, rfl⟩
  have Ja : Hid (IHolds U1 (w.heap.size) 24 [.string a, .string b]) := by
    have q := IHolds.new w 24 [.string a, .string b]
    show IHolds _ _ _ _
    rw [hU1]
    exact q
  have B : Hid (Below w.heap.size w U1) := by
    show Below _ _ _
    rw [hU1]
    exact ((Below.refl _ w).alloc (Nat.le_refl _) _)
  rw [← hU1]
  clear hU1
  refine (CG.out U1).mono ?_
  rintro e U2 ⟨rfl, hb⟩
  replace B := aB B hb
  replace Ja := aJ Ja hb
  clear hb
  have hb := nB U2 (.cells #[.int .i64 z] 34)
  have Jg : Hid (IHolds (U2.alloc (.cells #[.int .i64 z] 34)) U2.heap.size 34 [.int .i64 z]) := IHolds.new _ _ _
  have ne_a_g := nJ Ja
  have ge_g : Hid (w.heap.size ≤ U2.heap.size) := B.out.size
  replace B := aB B hb
  replace Ja := aJ Ja hb
  clear hb
  go_wp2_with fail
  generalize (U2.alloc (.cells #[.int .i64 z] 34)) = U3 at *
  generalize U2.heap.size = b4 at *
  refine (C1.out U3).mono ?_
  rintro e U5 ⟨rfl, hb⟩
  replace B := aB B hb
  replace Ja := aJ Ja hb
  replace Jg := aJ Jg hb
  clear hb
  have zg_0 : U5.cell? ⟨b4, 0, none⟩ = some (.int .i64 z) := IHolds.cell (l := [.int .i64 z]) (t := 34) (b := b4) (w := U5) (Jg.out) 0 (by simp)
  obtain ⟨za_0, za_1⟩ := cJ Ja
  go_wp2_with fail
  clear zg_0 za_0 za_1
  refine (C2.out U5).mono ?_
  rintro e U6 ⟨rfl, hb⟩
  replace B := aB B hb
  replace Ja := aJ Ja hb
  replace Jg := aJ Jg hb
  clear hb
  have zg_0 : U6.cell? ⟨b4, 0, none⟩ = some (.int .i64 z) := IHolds.cell (l := [.int .i64 z]) (t := 34) (b := b4) (w := U6) (Jg.out) 0 (by simp)
  obtain ⟨za_0, za_1⟩ := cJ Ja
  go_wp2_with fail
  clear zg_0 za_0 za_1
  refine (C3.out U6).mono ?_
  rintro e U7 ⟨rfl, hb⟩
  replace B := aB B hb
  replace Ja := aJ Ja hb
  replace Jg := aJ Jg hb
  clear hb
  go_wp2_with fail
  go_ret2
  exact ⟨rfl, B.out⟩
set_option maxRecDepth 100000 in
set_option maxHeartbeats 2000000 in
theorem renew_ok {w : World} {z : Int} {key n a b o u v p q : ByteArray} (CG : Hid (∀ W, Calls Tryz.prog 12 #[.int .i64 z] W fun e w' => e = .returned (.tuple #[.agg #[.int .i64 z], .int .i64 0]) ∧ Below W.heap.size W w')) (C1 : Hid (∀ W, Calls Tryz.prog 13 #[.agg #[.int .i64 z], .string key] W fun e w' => e = .returned (.bool false) ∧ Below W.heap.size W w')) (C2 : Hid (∀ W, Calls Tryz.prog 27 #[.agg #[.int .i64 z], .agg #[.string a, .string b]] W fun e w' => e = .returned (.bool false) ∧ Below W.heap.size W w')) (C3 : Hid (∀ W, Calls Tryz.prog 14 #[.agg #[.int .i64 z], .string n] W fun e w' => e = .returned (.bool false) ∧ Below W.heap.size W w')) (C4 : Hid (∀ W, Calls Tryz.prog 29 #[.agg #[.int .i64 z], .int .i64 0] W fun e w' => e = .returned (.string o) ∧ Below W.heap.size W w')) (C5 : Hid (∀ W, Calls Tryz.prog 15 #[.agg #[.int .i64 z], .string key, .string o, .string n] W fun e w' => e = .returned (.agg #[.string u, .string v]) ∧ Below W.heap.size W w')) (C6 : Hid (∀ W, Calls Tryz.prog 28 #[.agg #[.int .i64 z], .agg #[.string a, .string b], .agg #[.string u, .string v]] W fun e w' => e = .returned (.agg #[.string p, .string q]) ∧ Below W.heap.size W w')) :
    Calls Tryz.prog 8 #[.int .i64 z, .string key, .agg #[.string a, .string b], .string n] w fun e w' => e = .returned (.tuple #[.agg #[.string p, .string q], .int .i64 0]) ∧ Below w.heap.size w w' := by
  go_enter Tryz.func8, Tryz.ntmps8
  go_wp2_with fail
  obtain ⟨U1, hU1⟩ : ∃ X, X = ((w.alloc (.cells #[.string a, .string b] 24)).alloc (.cells #[.string ⟨#[]⟩, .string ⟨#[]⟩] 24)) := ⟨_, rfl⟩
  have Ja : Hid (IHolds U1 (w.heap.size) 24 [.string a, .string b]) := by
    have q := IHolds.new w 24 [.string a, .string b]
    show IHolds _ _ _ _
    rw [hU1]
    exact (q.alloc _)
  have Jr : Hid (IHolds U1 (w.heap.size + 1) 24 [.string ⟨#[]⟩, .string ⟨#[]⟩]) := by
    have q := IHolds.new (w.alloc (.cells #[.string a, .string b] 24)) 24 [.string ⟨#[]⟩, .string ⟨#[]⟩]
    simp only [World.size_alloc, Nat.add_assoc, Nat.reduceAdd] at q
    show IHolds _ _ _ _
    rw [hU1]
    exact q
  have B : Hid (Below w.heap.size w U1) := by
    show Below _ _ _
    rw [hU1]
    exact (((Below.refl _ w).alloc (Nat.le_refl _) _).alloc (by simp only [World.size_alloc]; omega) _)
  rw [← hU1]
  clear hU1
  refine (CG.out U1).mono ?_
  rintro e U2 ⟨rfl, hb⟩
  replace B := aB B hb
  replace Ja := aJ Ja hb
  replace Jr := aJ Jr hb
  clear hb
  have hb := nB U2 (.cells #[.int .i64 z] 34)
  have Jg : Hid (IHolds (U2.alloc (.cells #[.int .i64 z] 34)) U2.heap.size 34 [.int .i64 z]) := IHolds.new _ _ _
  have ne_a_g := nJ Ja
  have ne_r_g := nJ Jr
  have ge_g : Hid (w.heap.size ≤ U2.heap.size) := B.out.size
  replace B := aB B hb
  replace Ja := aJ Ja hb
  replace Jr := aJ Jr hb
  clear hb
  go_wp2_with fail
  generalize (U2.alloc (.cells #[.int .i64 z] 34)) = U3 at *
  generalize U2.heap.size = b4 at *
  refine (C1.out U3).mono ?_
  rintro e U5 ⟨rfl, hb⟩
  replace B := aB B hb
  replace Ja := aJ Ja hb
  replace Jr := aJ Jr hb
  replace Jg := aJ Jg hb
  clear hb
  have zg_0 : U5.cell? ⟨b4, 0, none⟩ = some (.int .i64 z) := IHolds.cell (l := [.int .i64 z]) (t := 34) (b := b4) (w := U5) (Jg.out) 0 (by simp)
  obtain ⟨za_0, za_1⟩ := cJ Ja
  go_wp2_with fail
  clear zg_0 za_0 za_1
  refine (C2.out U5).mono ?_
  rintro e U6 ⟨rfl, hb⟩
  replace B := aB B hb
  replace Ja := aJ Ja hb
  replace Jr := aJ Jr hb
  replace Jg := aJ Jg hb
  clear hb
  have zg_0 : U6.cell? ⟨b4, 0, none⟩ = some (.int .i64 z) := IHolds.cell (l := [.int .i64 z]) (t := 34) (b := b4) (w := U6) (Jg.out) 0 (by simp)
  obtain ⟨za_0, za_1⟩ := cJ Ja
  go_wp2_with fail
  clear zg_0 za_0 za_1
  refine (C3.out U6).mono ?_
  rintro e U7 ⟨rfl, hb⟩
  replace B := aB B hb
  replace Ja := aJ Ja hb
  replace Jr := aJ Jr hb
  replace Jg := aJ Jg hb
  clear hb
  go_wp2_with fail
  have hb := dB U7
  replace B := aB B hb
  replace Ja := aJ Ja hb
  replace Jr := aJ Jr hb
  replace Jg := aJ Jg hb
  clear hb
  refine wp_region_held_drew (S := fun W => (IHolds W (w.heap.size) 24 [.string a, .string b]) ∧ (IHolds W (b4) 34 [.int .i64 z])) (by kernel_rfl) ⟨Ja.out, Jg.out⟩ (fun hHeld1 => ?_)
  generalize U7.drew = U8 at *
  refine tk (i := 0) (v := .agg #[.int .i64 z]) rfl (by kernel_rfl) (fun _ _ _ h => h) rfl ?_ hHeld1 ?_
  · intro W hS; have zg_0 : W.cell? ⟨b4, 0, none⟩ = some (.int .i64 z) := IHolds.cell (l := [.int .i64 z]) (t := 34) (b := b4) (w := W) (hS.2) 0 (by simp); go_simp
  simp only [Act.put, y1, y2, y3, y4, y5, y6, y7]
  refine tk (i := 1) (v := .agg #[.string a, .string b]) rfl (by kernel_rfl) (fun _ _ _ h => h) rfl ?_ hHeld1 ?_
  · intro W hS; obtain ⟨za_0, za_1⟩ := c2 hS.1; go_simp
  simp only [Act.put, y1, y2, y3, y4, y5, y6, y7]
  refine tk (i := 2) (v := .agg #[.int .i64 z]) rfl (by kernel_rfl) (fun _ _ _ h => h) rfl ?_ hHeld1 ?_
  · intro W hS; have zg_0 : W.cell? ⟨b4, 0, none⟩ = some (.int .i64 z) := IHolds.cell (l := [.int .i64 z]) (t := 34) (b := b4) (w := W) (hS.2) 0 (by simp); go_simp
  simp only [Act.put, y1, y2, y3, y4, y5, y6, y7]
  refine tk (i := 3) (v := .string key) rfl (by kernel_rfl) (fun _ _ _ h => h) rfl ?_ hHeld1 ?_
  · intro W hS; go_simp
  simp only [Act.put, y1, y2, y3, y4, y5, y6, y7]
  refine tk (i := 4) (v := .agg #[.int .i64 z]) rfl (by kernel_rfl) (fun _ _ _ h => h) rfl ?_ hHeld1 ?_
  · intro W hS; have zg_0 : W.cell? ⟨b4, 0, none⟩ = some (.int .i64 z) := IHolds.cell (l := [.int .i64 z]) (t := 34) (b := b4) (w := W) (hS.2) 0 (by simp); go_simp
  simp only [Act.put, y1, y2, y3, y4, y5, y6, y7]
  refine tk (i := 6) (v := .string n) rfl (by kernel_rfl) (fun _ _ _ h => h) rfl ?_ hHeld1 ?_
  · intro W hS; go_simp
  simp only [Act.put, y1, y2, y3, y4, y5, y6, y7]
  refine wpAnyH_ready (rs := [5]) (by kernel_rfl) (by simp) ?_
  refine AllReadyH.cons rfl (fun K hK => ?_) AllReadyH.nil
  clear hHeld1
  go_simp
  refine (C4.out U8).mono ?_
  rintro e U9 ⟨rfl, hb⟩
  replace B := aB B hb
  replace Ja := aJ Ja hb
  replace Jr := aJ Jr hb
  replace Jg := aJ Jg hb
  clear hb
  go_wp2_with fail
  refine hK.out _ _ (⟨Ja.out, Jg.out⟩) (fun hHeld2 => ?_)
  clear hK K
  try simp only [Act.put, y1, y2, y3, y4, y5, y6, y7]
  refine wpAnyH_ready (rs := [7]) (by kernel_rfl) (by simp) ?_
  refine AllReadyH.cons rfl (fun K hK => ?_) AllReadyH.nil
  clear hHeld2
  go_simp
  refine (C5.out U9).mono ?_
  rintro e U10 ⟨rfl, hb⟩
  replace B := aB B hb
  replace Ja := aJ Ja hb
  replace Jr := aJ Jr hb
  replace Jg := aJ Jg hb
  clear hb
  go_wp2_with fail
  refine hK.out _ _ (⟨Ja.out, Jg.out⟩) (fun hHeld3 => ?_)
  clear hK K
  try simp only [Act.put, y1, y2, y3, y4, y5, y6, y7]
  refine wpAnyH_ready (rs := [8]) (by kernel_rfl) (by simp) ?_
  refine AllReadyH.cons rfl (fun K hK => ?_) AllReadyH.nil
  clear hHeld3
  go_simp
  refine (C6.out U10).mono ?_
  rintro e U11 ⟨rfl, hb⟩
  replace B := aB B hb
  replace Ja := aJ Ja hb
  replace Jr := aJ Jr hb
  replace Jg := aJ Jg hb
  clear hb
  go_wp2_with fail
  refine hK.out _ _ (⟨Ja.out, Jg.out⟩) (fun hHeld4 => ?_)
  clear hK K
  try simp only [Act.put, y1, y2, y3, y4, y5, y6, y7]
  refine wpAnyH_ready (rs := [9]) (by kernel_rfl) (by simp) ?_
  refine AllReadyH.cons rfl (fun K hK => ?_) AllReadyH.nil
  clear hHeld4
  obtain ⟨zr_0, zr_1⟩ := cJ Jr
  have f0 := fJ Jr
  have hBut : But (w.heap.size + 1) U11 ((U11.setCell ⟨w.heap.size + 1, 0, none⟩ (.string p)).setCell ⟨w.heap.size + 1, 1, none⟩ (.string q)) := (((But.refl _ U11).setCell 0 (.string p)).setCell 1 (.string q))
  have I4 : Hid (IHolds _ (w.heap.size + 1) 24 [.string p, .string q]) := ((Jr.out.set 0 (.string p)).set 1 (.string q))
  replace B : Hid (Below w.heap.size w ((U11.setCell ⟨w.heap.size + 1, 0, none⟩ (.string p)).setCell ⟨w.heap.size + 1, 1, none⟩ (.string q))) := ((B.out.setCell (by first | exact Nat.le_refl _ | exact ge_r.out | (show w.heap.size ≤ w.heap.size + 1; omega)) _).setCell (by first | exact Nat.le_refl _ | exact ge_r.out | (show w.heap.size ≤ w.heap.size + 1; omega)) _)
  replace Ja := tJ Ja hBut (by omega)
  replace Jg := tJ Jg hBut (fun h => ne_r_g.out h.symm)
  replace Jr := I4
  clear I4 hBut
  go_simp
  try go_wp2_with fail
  clear zr_0 zr_1
  clear f0
  generalize ((U11.setCell ⟨w.heap.size + 1, 0, none⟩ (.string p)).setCell ⟨w.heap.size + 1, 1, none⟩ (.string q)) = U12 at *
  refine hK.out _ _ (⟨Ja.out, Jg.out⟩) (fun hHeld5 => ?_)
  clear hK K
  try simp only [Act.put, y1, y2, y3, y4, y5, y6, y7]
  refine tk (i := 10) (v := (.int .i64 0)) rfl (by kernel_rfl) (fun _ _ _ h => h) rfl ?_ hHeld5 ?_
  · intro W hS; go_simp
  simp only [Act.put, y1, y2, y3, y4, y5, y6, y7]
  refine wpAnyH_done (by kernel_rfl) ?_ _
  clear hHeld5
  go_wp2_with fail
  have E0 : Hid (U12.cell? ⟨w.heap.size + 1, 0, none⟩ = some (.string p)) := IHolds.cell (l := [.string p, .string q]) (t := 24) (b := w.heap.size + 1) (w := U12) Jr.out 0 (by simp)
  have E1 : Hid (U12.cell? ⟨w.heap.size + 1, 1, none⟩ = some (.string q)) := IHolds.cell (l := [.string p, .string q]) (t := 24) (b := w.heap.size + 1) (w := U12) Jr.out 1 (by simp)
  exact bodyPost_ret (v := .tuple #[.agg #[.string p, .string q], .int .i64 0]) (by simp [results, Tryz.results8, go_sem, E0.out, E1.out]) rfl ⟨rfl, B.out⟩
end Go.Proofs.YtohpbclofcflaaaGreat
namespace Go.Proofs.YtohpbclofcflaaaGreat
open Go.RowKit Go.Deep Go.PlainAid

section
variable {z : Int} {G : Array Value} {S Wd M low one sq Ri Wd2 M2 low2 one2 sq2 Ri2 : Nat}
theorem scal_call (k : KD z G S Wd M low one sq Ri Wd2 M2 low2 one2 sq2 Ri2) (w : World) (s : ByteArray) : Calls Tryz.prog 34 #[.int .i64 z, .string s] w fun e w' => e = .returned (.bool (isSc S M s)) ∧ Below w.heap.size w w' :=
  scalar_face (c := if isSc S M s then 0 else 6) (by cases isSc S M s <;> rfl) (fun W cp hc => on57_58 hc k.hG k.hi k.h1 k.CG (fun W g hI hc => clos58 hc (fun W' hb => scalarA ((k.gh W g hI).of_below hb) s k.hS k.big)))
theorem num_call (k : KD z G S Wd M low one sq Ri Wd2 M2 low2 one2 sq2 Ri2) (w : World) (n : Int) (n1 : -9223372036854775808 ≤ n) (n2 : n ≤ 9223372036854775807) : Calls Tryz.prog 48 #[.int .i64 z, .int .i64 n] w fun e w' => e = .returned (.tuple #[.string (TX S (numF M n)), .int .i64 0]) ∧ Below w.heap.size w w' :=
  number_face (fun W cp hc => on48_52 hc k.hG k.hi k.h1 k.CG (fun W g hI hc => clos52 hc (fun W' hb => fnumberA ((k.gh W g hI).of_below hb).fs k.fl n n1 n2) (fun W' hb => toldA ((k.gh W g hI).of_below hb).c k.hS (Nat.lt_trans (numF_lt k.m2) k.big))))
theorem size_call (k : KD z G S Wd M low one sq Ri Wd2 M2 low2 one2 sq2 Ri2) (w : World) : Calls Tryz.prog 32 #[.int .i64 z] w fun e w' => e = .returned (.tuple #[.int .i64 (S : Int), .int .i64 (S : Int), .int .i64 0]) ∧ Below w.heap.size w w' :=
  sizes_call (on46_ok k.hG k.hi k.h1 k.CG (fun W g h => sizes_any (k.gh W g h).c))
theorem numF_nat {M k : Nat} (h : k < M) : numF M (k : Int) = k := by
  unfold numF
  rw [if_neg (by omega), Int.toNat_natCast, Nat.mod_eq_of_lt h]
theorem zero_call (k : KD z G S Wd M low one sq Ri Wd2 M2 low2 one2 sq2 Ri2) (w : World) : Calls Tryz.prog 48 #[.int .i64 z, .int .i64 0] w fun e w' => e = .returned (.tuple #[.string (TX S 0), .int .i64 0]) ∧ Below w.heap.size w w' := by
  have q := num_call k w 0 (by omega) (by omega)
  rw [show (0 : Int) = ((0 : Nat) : Int) from rfl, numF_nat (by have := k.m2; omega)] at q
  exact q
theorem one_call (k : KD z G S Wd M low one sq Ri Wd2 M2 low2 one2 sq2 Ri2) (w : World) : Calls Tryz.prog 48 #[.int .i64 z, .int .i64 1] w fun e w' => e = .returned (.tuple #[.string (TX S 1), .int .i64 0]) ∧ Below w.heap.size w w' := by
  have q := num_call k w 1 (by omega) (by omega)
  rw [show (1 : Int) = ((1 : Nat) : Int) from rfl, numF_nat (by have := k.m2; omega)] at q
  exact q
theorem KD.sc (k : KD z G S Wd M low one sq Ri Wd2 M2 low2 one2 sq2 Ri2) {n : Nat} (h : n < M) : isSc S M (TX S n) = true := isSc_TX h k.sz
theorem KD.nu (k : KD z G S Wd M low one sq Ri Wd2 M2 low2 one2 sq2 Ri2) {n : Nat} (h : n < M) : numS (TX S n) = n := numS_TX (Nat.lt_of_lt_of_le h k.sz)
theorem as_TX {S M : Nat} {a : ByteArray} (h : isSc S M a = true) : ∃ A, A < M ∧ a = TX S A := ⟨numS a, isSc_lt h, (TX_numS (isSc_size h)).symm⟩
theorem memb_call (k : KD z G S Wd M low one sq Ri Wd2 M2 low2 one2 sq2 Ri2) (w : World) (s : ByteArray) : Calls Tryz.prog 33 #[.int .i64 z, .string s] w fun e w' => e = .returned (.bool (isEl S M s)) ∧ Below w.heap.size w w' :=
  member_face (c := if isEl S M s then 0 else 7) (by cases isEl S M s <;> rfl) (fun W cp hc => on57_60 hc k.hG k.hi k.h1 k.CG (fun W g hI hc => clos60 hc (fun W' hb => elemA ((k.gh W g hI).of_below hb) s k.hS k.big)))
theorem bas_call (k : KD z G S Wd M low one sq Ri Wd2 M2 low2 one2 sq2 Ri2) (w : World) : Calls Tryz.prog 61 #[.int .i64 z] w fun e w' => e = .returned (.tuple #[.string (TX S 2), .int .i64 0]) ∧ Below w.heap.size w w' :=
  base_call (on48_51 k.hG k.hi k.h1 k.CG (fun W g h => base_any (k.gh W g h).c k.hS))
theorem KD.e2 (k : KD z G S Wd M low one sq Ri Wd2 M2 low2 one2 sq2 Ri2) {n : Nat} (h : n ≤ M) : n < M2 := by have := k.m21; omega
theorem KD.ee (k : KD z G S Wd M low one sq Ri Wd2 M2 low2 one2 sq2 Ri2) (hs : M < 256 ^ S) {n : Nat} (h0 : n ≠ 0) (h : n ≤ M) : isEl S M (TX S n) = true := decide_eq_true ⟨size_TX S n, by rw [numS_TX (Nat.lt_of_le_of_lt h hs)]; exact h0, by rw [numS_TX (Nat.lt_of_le_of_lt h hs)]; exact h⟩
theorem KD.en (k : KD z G S Wd M low one sq Ri Wd2 M2 low2 one2 sq2 Ri2) (hs : M < 256 ^ S) {n : Nat} (h : n ≤ M) : numS (TX S n) = n := numS_TX (Nat.lt_of_le_of_lt h hs)
theorem as_EX {S M : Nat} {a : ByteArray} (h : isEl S M a = true) : ∃ A, A ≠ 0 ∧ A ≤ M ∧ a = TX S A := ⟨numS a, isEl_pos h, isEl_le h, (TX_numS (isEl_size h)).symm⟩
theorem SAt.two {W : World} {b : Nat} {x y : ByteArray} (h : IHolds W b 9 [.string x, .string y]) : SAt W (some ⟨b, 0, none⟩) [x, y] := by
  intro i hi
  refine ⟨b, 0, rfl, ?_⟩
  match i, hi with
  | 0, _ => exact h.cell 0 (by simp)
  | 1, _ => exact h.cell 1 (by simp)
end
end Go.Proofs.YtohpbclofcflaaaGreat

/- A cipher hides one number alone, and tells nothing to who does not know the secret: in numbers. -/
namespace Go.Proofs.YtohpbclofcflaaaGreat

/-- The base's powers, told. -/
def pw2 (M M2 n : Nat) : Nat := sgn M M2 (2 ^ n % M2)
/-- Signs do not matter to squares. -/
theorem sgn_sq {M M2 x y : Nat} (e : M2 = 2 * M + 1) (hx : x < M2) (hy : y < M2) (h : sgn M M2 x = sgn M M2 y) : x * x % M2 = y * y % M2 := by
  have hc : x = y ∨ x + y = M2 := by
    unfold sgn at h
    split at h <;> split at h <;> omega
  rcases hc with rfl | hc
  · rfl
  · have sq : ∀ a t : Nat, (a + t) * (a + t) = a * a + (a + t + a) * t := fun a t => by
      simp only [Nat.mul_add, Nat.add_mul]
      rw [Nat.mul_comm t a]
      omega
    rcases Nat.le_total y x with g | g
    · obtain ⟨t, rfl⟩ : ∃ t, x = y + t := ⟨x - y, by omega⟩
      rw [sq, hc, Nat.add_mul_mod_self_left]
    · obtain ⟨t, rfl⟩ : ∃ t, y = x + t := ⟨y - x, by omega⟩
      rw [sq, show x + t + x = M2 by omega, Nat.add_mul_mod_self_left]
theorem inv_pow {p a : Nat} (hp : IsP p) (ha : ¬ p ∣ a) : a ^ (p - 2) * a % p = 1 := by
  have := hp.1
  rw [← Nat.pow_succ, show (p - 2).succ = p - 1 by omega]
  exact hp.fermat1 ha
theorem cancel_mod {p a b c : Nat} (hp : IsP p) (ha : ¬ p ∣ a) (h : a * b % p = a * c % p) : b % p = c % p := by
  have i := inv_pow hp ha
  have g : ∀ x, x % p = a ^ (p - 2) * (a * x % p) % p := fun x => by
    rw [Nat.mul_mod_mod, ← Nat.mul_assoc, Nat.mul_mod, i, Nat.one_mul, Nat.mod_mod]
  rw [g b, g c, h]
/-- The base's powers are alike only where the numbers are alike but for the order. -/
theorem pw2_inj {M M2 f n : Nat} (hp : IsP M2) (hq : IsP M) (e : M2 = 2 * M + 1) (hfn : f ≤ n) (h : pw2 M M2 f = pw2 M M2 n) : f % M = n % M := by
  have hM := hq.1
  obtain ⟨d, rfl⟩ : ∃ d, n = f + d := ⟨n - f, by omega⟩
  have n2 : ¬ M2 ∣ 2 := hp.not_dvd_lt (by omega) (by omega)
  have q := sgn_sq e (Nat.mod_lt _ (by omega)) (Nat.mod_lt _ (by omega)) h
  rw [← Nat.mul_mod, ← Nat.mul_mod] at q
  have nf : ¬ M2 ∣ 2 ^ f * 2 ^ f := fun g => by
    rcases hp.euclid g with g | g <;> exact hp.not_dvd_pow n2 f g
  have q2 : (2 ^ f * 2 ^ f) * (2 ^ d * 2 ^ d) % M2 = (2 ^ f * 2 ^ f) * 1 % M2 := by
    rw [Nat.mul_one, q, Nat.pow_add, Nat.mul_mul_mul_comm]
  have q3 := cancel_mod hp nf q2
  rw [Nat.mod_eq_of_lt (show 1 < M2 by omega)] at q3
  by_cases hd : M ∣ d
  · obtain ⟨t, rfl⟩ := hd
    exact (Nat.add_mul_mod_self_left _ _ _).symm
  · exfalso
    have i := inv_pow hq hd
    obtain ⟨E, hE⟩ : ∃ E, E = d ^ (M - 2) := ⟨_, rfl⟩
    rw [← hE] at i
    obtain ⟨t, ht⟩ : ∃ t, E * d = M * t + 1 := ⟨E * d / M, by have := Nat.div_add_mod (E * d) M; omega⟩
    have a1 : (2 ^ d * 2 ^ d) ^ E % M2 = 1 := by rw [Nat.pow_mod, q3, Nat.one_pow, Nat.mod_eq_of_lt (by omega)]
    have ex : (d + d) * E = 2 + (M2 - 1) * t := by
      rw [show M2 - 1 = M + M by omega, Nat.add_mul, Nat.add_mul, Nat.mul_comm d E]
      omega
    rw [← Nat.pow_add, ← Nat.pow_mul, ex, Nat.pow_add, Nat.pow_mul, Nat.mul_mod, Nat.pow_mod (2 ^ (M2 - 1)), hp.fermat1 n2, Nat.one_pow, Nat.mod_eq_of_lt (show 1 < M2 by omega), Nat.mul_one, Nat.mod_mod, Nat.mod_eq_of_lt (show 2 ^ 2 < M2 by omega)] at a1
    omega

/-- An element, of a number that is not 0 modulo the prime. -/
def E (M M2 x : Nat) : Nat := sgn M M2 (x % M2)
theorem E_mod {M M2 x y : Nat} (h : x % M2 = y % M2) : E M M2 x = E M M2 y := by unfold E; rw [h]
theorem E_left {M M2 x y : Nat} (e : M2 = 2 * M + 1) : sgn M M2 (E M M2 x * y % M2) = E M M2 (x * y) := by
  unfold E
  rw [sgn_mul_left e (Nat.mod_lt _ (by omega)), Nat.mod_mul_mod]
theorem E_cancel {M M2 x x' y : Nat} (hp : IsP M2) (e : M2 = 2 * M + 1) (hy : ¬ M2 ∣ y) (h : E M M2 (x * y) = E M M2 (x' * y)) : E M M2 x = E M M2 x' := by
  have i := inv_pow hp hy
  have g : ∀ u, E M M2 u = sgn M M2 (E M M2 (u * y) * y ^ (M2 - 2) % M2) := fun u => by
    rw [E_left e]
    refine E_mod ?_
    rw [Nat.mul_assoc, Nat.mul_comm y, Nat.mul_mod, i, Nat.mul_one, Nat.mod_mod]
  rw [g x, g x', h]
theorem n2 {M M2 : Nat} (hp : IsP M2) (hq : IsP M) (e : M2 = 2 * M + 1) : ¬ M2 ∣ 2 := hp.not_dvd_lt (by omega) (by have := hq.1; omega)
theorem n2p {M M2 : Nat} (hp : IsP M2) (hq : IsP M) (e : M2 = 2 * M + 1) (k : Nat) : ¬ M2 ∣ 2 ^ k := hp.not_dvd_pow (n2 hp hq e) k
theorem E_exp {M M2 k : Nat} (hp : IsP M2) (hq : IsP M) (e : M2 = 2 * M + 1) : E M M2 (2 ^ k) = E M M2 (2 ^ (k % M)) := sgn_exp hp e (by have := hq.1; omega) (by omega) (by have := hq.1; omega) k
theorem E_same {M M2 k l : Nat} (hp : IsP M2) (hq : IsP M) (e : M2 = 2 * M + 1) (h : k % M = l % M) : E M M2 (2 ^ k) = E M M2 (2 ^ l) := by rw [E_exp hp hq e, h, ← E_exp hp hq e]
theorem E_inj {M M2 k l : Nat} (hp : IsP M2) (hq : IsP M) (e : M2 = 2 * M + 1) (hk : k < M) (hl : l < M) (h : E M M2 (2 ^ k) = E M M2 (2 ^ l)) : k = l := by
  rcases Nat.le_total k l with g | g
  · have := pw2_inj hp hq e g h
    rwa [Nat.mod_eq_of_lt hk, Nat.mod_eq_of_lt hl] at this
  · have := pw2_inj hp hq e g h.symm
    rw [Nat.mod_eq_of_lt hk, Nat.mod_eq_of_lt hl] at this
    exact this.symm
theorem E_undo {M M2 x y : Nat} (hp : IsP M2) (hy : ¬ M2 ∣ y) : E M M2 (x * y * y ^ (M2 - 2)) = E M M2 x := by
  refine E_mod ?_
  rw [Nat.mul_assoc, Nat.mul_comm y, Nat.mul_mod, inv_pow hp hy, Nat.mul_one, Nat.mod_mod]
/-! What is hidden comes out, and that alone. -/
theorem dec1 {M M2 x s v : Nat} (hp : IsP M2) (hq : IsP M) (e : M2 = 2 * M + 1) : E M M2 (2 ^ x * (2 ^ s) ^ v * ((2 ^ v) ^ s) ^ (M2 - 2)) = E M M2 (2 ^ x) := by
  rw [← Nat.pow_mul 2 s v, ← Nat.pow_mul 2 v s, Nat.mul_comm v s]
  exact E_undo hp (n2p hp hq e _)
theorem dec2 {M M2 x s v w : Nat} (hp : IsP M2) (hq : IsP M) (e : M2 = 2 * M + 1) : E M M2 (2 ^ x * (2 ^ s) ^ v * (2 ^ 0 * (2 ^ s) ^ w) * ((2 ^ v * 2 ^ w) ^ s) ^ (M2 - 2)) = E M M2 (2 ^ x) := by
  have h : 2 ^ x * (2 ^ s) ^ v * (2 ^ 0 * (2 ^ s) ^ w) = 2 ^ x * 2 ^ (s * (v + w)) := by
    rw [Nat.pow_zero, Nat.one_mul, Nat.mul_assoc, ← Nat.pow_mul, ← Nat.pow_mul, ← Nat.pow_add, Nat.mul_add]
  rw [h, ← Nat.pow_add 2 v w, ← Nat.pow_mul 2 (v + w) s, Nat.mul_comm (v + w) s]
  exact E_undo hp (n2p hp hq e _)
theorem bind_iff {M M2 x y s v w : Nat} (hp : IsP M2) (hq : IsP M) (e : M2 = 2 * M + 1) (hx : x < M) (hy : y < M) (hv : v < M) (hw : w < M) :
    (E M M2 (2 ^ v) = E M M2 (2 ^ w) ∧ E M M2 (2 ^ x * (2 ^ s) ^ v) = E M M2 (2 ^ y * (2 ^ s) ^ w)) ↔ (x = y ∧ v = w) := by
  constructor
  · rintro ⟨h1, h2⟩
    obtain rfl := E_inj hp hq e hv hw h1
    rw [← Nat.pow_mul 2 s v] at h2
    exact ⟨E_inj hp hq e hx hy (E_cancel hp e (n2p hp hq e _) h2), rfl⟩
  · rintro ⟨rfl, rfl⟩
    exact ⟨rfl, rfl⟩
/-- The secret with which a cipher hides another number. -/
def other (M s n x y : Nat) : Nat := ((s * n % M + x) % M + M - y) % M * (n ^ (M - 2) % M) % M
theorem other_mul {M s n x y : Nat} (hq : IsP M) (n0 : n ≠ 0) (hn : n < M) : other M s n x y * n % M = ((s * n % M + x) % M + M - y) % M := by
  have i := inv_pow hq (hq.not_dvd_lt (by omega) hn)
  unfold other
  generalize ((s * n % M + x) % M + M - y) = t
  rw [Nat.mod_mul_mod, Nat.mul_assoc, Nat.mod_mul_mod, Nat.mul_mod, Nat.mod_mul_mod (n ^ (M - 2)), i, Nat.mul_one, Nat.mod_mod]
theorem other_sum {M s n x y : Nat} (hq : IsP M) (n0 : n ≠ 0) (hn : n < M) (hy : y < M) : (y + other M s n x y * n) % M = (x + s * n) % M := by
  rw [Nat.add_mod, other_mul hq n0 hn, Nat.add_mod_mod, Nat.add_comm (y % M), Nat.mod_add_mod, Nat.mod_eq_of_lt hy, Nat.sub_add_cancel (by omega), Nat.add_mod_right, Nat.mod_mod, Nat.add_comm (s * n)]
theorem counts_eq {M M2 s n x y : Nat} (hp : IsP M2) (hq : IsP M) (e : M2 = 2 * M + 1) (n0 : n ≠ 0) (hn : n < M) (hy : y < M) : E M M2 (2 ^ y * (2 ^ other M s n x y) ^ n) = E M M2 (2 ^ x * (2 ^ s) ^ n) := by
  rw [← Nat.pow_mul, ← Nat.pow_mul, ← Nat.pow_add, ← Nat.pow_add]
  exact E_same hp hq e (other_sum hq n0 hn hy)
theorem other_lt {M s n x y : Nat} (hq : IsP M) : other M s n x y < M := Nat.mod_lt _ (by have := hq.1; omega)
theorem other_self {M s n x : Nat} (hq : IsP M) (n0 : n ≠ 0) (hn : n < M) (hs : s < M) (hx : x < M) : other M s n x x = s := by
  have h := other_sum (s := s) (x := x) hq n0 hn hx
  have h2 : n * other M s n x x % M = n * s % M := by
    have a : (other M s n x x * n) % M = s * n % M := by
      rw [other_mul hq n0 hn]
      have l : s * n % M < M := Nat.mod_lt _ (by omega)
      generalize s * n % M = t at *
      by_cases g : t + x < M
      · rw [Nat.mod_eq_of_lt g, show t + x + M - x = t + M by omega, Nat.add_mod_right, Nat.mod_eq_of_lt l]
      · have : (t + x) % M = t + x - M := by rw [Nat.mod_eq_sub_mod (by omega), Nat.mod_eq_of_lt (by omega)]
        rw [this, show t + x - M + M - x = t by omega, Nat.mod_eq_of_lt l]
    rw [Nat.mul_comm n, a, Nat.mul_comm]
  have := cancel_mod hq (hq.not_dvd_lt (by omega) hn) h2
  rwa [Nat.mod_eq_of_lt (other_lt hq), Nat.mod_eq_of_lt hs] at this
theorem other_inj {M s n x y : Nat} (hq : IsP M) (n0 : n ≠ 0) (hn : n < M) (hx : x < M) (hy : y < M) (h : other M s n x y = s) : x = y := by
  have q := other_sum (s := s) (x := x) hq n0 hn hy
  rw [h] at q
  have q2 : y % M = x % M := by
    have l : s * n % M < M := Nat.mod_lt _ (by omega)
    rw [Nat.add_mod y, Nat.add_mod x, Nat.mod_eq_of_lt hx, Nat.mod_eq_of_lt hy] at q
    generalize s * n % M = t at *
    rw [Nat.mod_eq_of_lt hx, Nat.mod_eq_of_lt hy]
    by_cases g1 : y + t < M
    · rw [Nat.mod_eq_of_lt g1] at q
      by_cases g2 : x + t < M
      · rw [Nat.mod_eq_of_lt g2] at q; omega
      · rw [Nat.mod_eq_sub_mod (by omega), Nat.mod_eq_of_lt (show x + t - M < M by omega)] at q; omega
    · rw [Nat.mod_eq_sub_mod (show y + t ≥ M by omega), Nat.mod_eq_of_lt (show y + t - M < M by omega)] at q
      by_cases g2 : x + t < M
      · rw [Nat.mod_eq_of_lt g2] at q; omega
      · rw [Nat.mod_eq_sub_mod (by omega), Nat.mod_eq_of_lt (show x + t - M < M by omega)] at q; omega
  rw [Nat.mod_eq_of_lt hx, Nat.mod_eq_of_lt hy] at q2
  exact q2.symm
theorem counts_iff {M M2 s n x y : Nat} (hp : IsP M2) (hq : IsP M) (e : M2 = 2 * M + 1) (n0 : n ≠ 0) (hn : n < M) (hs : s < M) (hx : x < M) (hy : y < M) : x = y ↔ E M M2 (2 ^ other M s n x y) = E M M2 (2 ^ s) := by
  constructor
  · rintro rfl; rw [other_self hq n0 hn hs hx]
  · intro h
    exact other_inj hq n0 hn hx hy (E_inj hp hq e (other_lt hq) hs h)
end Go.Proofs.YtohpbclofcflaaaGreat

/- A cipher hides one number alone, and tells nothing to who does not know the secret: the laws, of every kind. -/
namespace Go.Proofs.YtohpbclofcflaaaGreat
open Go.RowKit Go.Deep Go.PlainAid

section
variable {z : Int} {G : Array Value} {S Wd M low one sq Ri Wd2 M2 low2 one2 sq2 Ri2 : Nat}
/-- An element's text. -/
def EX (S M M2 x : Nat) : ByteArray := TX S (E M M2 x)
/-- What a kind's primes are. -/
structure PK (S M M2 : Nat) : Prop where
  hp : IsP M2
  hq : IsP M
  e2 : M2 = 2 * M + 1
  hs : M < 256 ^ S
theorem PK.m1 {S M M2 : Nat} (h : PK S M M2) : 2 ≤ M := h.hq.1
theorem PK.ml {S M M2 : Nat} (h : PK S M M2) (x : Nat) : x % M2 < M2 := Nat.mod_lt _ (by have := h.e2; omega)
theorem PK.sl {S M M2 : Nat} (h : PK S M M2) (x : Nat) : E M M2 x ≤ M := sgn_le h.e2 (h.ml x)
theorem PK.sp {S M M2 : Nat} (h : PK S M M2) {x : Nat} (hx : ¬ M2 ∣ x) : E M M2 x ≠ 0 := sgn_pos h.e2 (fun q => hx (Nat.dvd_of_mod_eq_zero q)) (h.ml x)
theorem PK.np {S M M2 : Nat} (h : PK S M M2) {x : Nat} (hx : ¬ M2 ∣ x) (t : Nat) : ¬ M2 ∣ x ^ t := h.hp.not_dvd_pow hx t
theorem PK.nm {S M M2 : Nat} (h : PK S M M2) {x y : Nat} (hx : ¬ M2 ∣ x) (hy : ¬ M2 ∣ y) : ¬ M2 ∣ x * y := fun q => by
  rcases h.hp.euclid q with g | g
  · exact hx g
  · exact hy g
theorem PK.n2 {S M M2 : Nat} (h : PK S M M2) : ¬ M2 ∣ 2 := Go.Proofs.YtohpbclofcflaaaGreat.n2 h.hp h.hq h.e2
theorem PK.two {S M M2 : Nat} (h : PK S M M2) : EX S M M2 2 = TX S 2 := by
  have := h.m1
  have := h.e2
  unfold EX E
  rw [Nat.mod_eq_of_lt (by omega), sgn_low h.m1]
theorem EX_inj {S M M2 x y : Nat} (h : PK S M M2) (he : EX S M M2 x = EX S M M2 y) : E M M2 x = E M M2 y := by
  have q := congrArg numS he
  unfold EX at q
  rwa [numS_TX (Nat.lt_of_le_of_lt (h.sl x) h.hs), numS_TX (Nat.lt_of_le_of_lt (h.sl y) h.hs)] at q
theorem TX_inj {S M M2 x y : Nat} (h : PK S M M2) (hx : x < M) (hy : y < M) (he : TX S x = TX S y) : x = y := by
  have q := congrArg numS he
  rwa [numS_TX (Nat.lt_trans hx h.hs), numS_TX (Nat.lt_trans hy h.hs)] at q
theorem POW (k : KD z G S Wd M low one sq Ri Wd2 M2 low2 one2 sq2 Ri2) (h : PK S M M2) {x t : Nat} (hx : ¬ M2 ∣ x) (ht : t < M) (W : World) :
    Calls Tryz.prog 62 #[.int .i64 z, .string (EX S M M2 x), .string (TX S t)] W fun e w' => e = .returned (.tuple #[.string (EX S M M2 (x ^ t)), .int .i64 0]) ∧ Below W.heap.size W w' := by
  have q := power_yes k W (k.ee h.hs (h.sp hx) (h.sl x)) (k.sc ht)
  rw [k.en h.hs (h.sl x), k.nu ht] at q
  have e : sgn M M2 (E M M2 x ^ t % M2) = E M M2 (x ^ t) := by
    unfold E
    rw [sgn_pow h.e2 (by have := h.m1; omega) (h.ml x), ← Nat.pow_mod]
  rw [e] at q
  exact q
theorem TIM (k : KD z G S Wd M low one sq Ri Wd2 M2 low2 one2 sq2 Ri2) (h : PK S M M2) {x y : Nat} (hx : ¬ M2 ∣ x) (hy : ¬ M2 ∣ y) (W : World) :
    Calls Tryz.prog 67 #[.int .i64 z, .string (EX S M M2 x), .string (EX S M M2 y)] W fun e w' => e = .returned (.tuple #[.string (EX S M M2 (x * y)), .int .i64 0]) ∧ Below W.heap.size W w' := by
  have q := times_yes k W (k.ee h.hs (h.sp hx) (h.sl x)) (k.ee h.hs (h.sp hy) (h.sl y))
  rw [k.en h.hs (h.sl x), k.en h.hs (h.sl y)] at q
  have e : sgn M M2 (E M M2 x * E M M2 y % M2) = E M M2 (x * y) := by
    unfold E
    rw [sgn_mul h.e2 (h.ml x) (h.ml y), ← Nat.mul_mod]
  rw [e] at q
  exact q
theorem UND (k : KD z G S Wd M low one sq Ri Wd2 M2 low2 one2 sq2 Ri2) (h : PK S M M2) {x : Nat} (hx : ¬ M2 ∣ x) (W : World) :
    Calls Tryz.prog 71 #[.int .i64 z, .string (EX S M M2 x)] W fun e w' => e = .returned (.tuple #[.string (EX S M M2 (x ^ (M2 - 2))), .int .i64 0]) ∧ Below W.heap.size W w' := by
  have q := under_yes k W (k.ee h.hs (h.sp hx) (h.sl x))
  rw [k.en h.hs (h.sl x)] at q
  have e : sgn M M2 (E M M2 x ^ (M2 - 2) % M2) = E M M2 (x ^ (M2 - 2)) := by
    unfold E
    rw [sgn_pow h.e2 (by have := h.m1; omega) (h.ml x), ← Nat.pow_mod]
  rw [e] at q
  exact q
theorem PRO (k : KD z G S Wd M low one sq Ri Wd2 M2 low2 one2 sq2 Ri2) (h : PK S M M2) {x y a b : Nat} (hx : ¬ M2 ∣ x) (hy : ¬ M2 ∣ y) (ha : a < M) (hb : b < M) (W : World) (b1 b2 : Nat)
    (h1 : IHolds W b1 9 [.string (EX S M M2 x), .string (EX S M M2 y)]) (h2 : IHolds W b2 9 [.string (TX S a), .string (TX S b)]) :
    Calls Tryz.prog 35 #[.int .i64 z, .slice (some ⟨b1, 0, none⟩) 2 2, .slice (some ⟨b2, 0, none⟩) 2 2] W fun e w' => e = .returned (.tuple #[.string (EX S M M2 (x ^ a * y ^ b)), .int .i64 0]) ∧ Below W.heap.size W w' := by
  have q := prod_yes k W (n := 2) (cx := 2) (cn := 2) (SAt.two h1) (SAt.two h2) rfl rfl (by omega)
  have ex := k.ee h.hs (h.sp hx) (h.sl x)
  have ey := k.ee h.hs (h.sp hy) (h.sl y)
  have ec : code S M [EX S M M2 x, EX S M M2 y] [TX S a, TX S b] = 0 := by simp [code, EX, ex, ey, k.sc ha, k.sc hb]
  have et : prodT S M M2 [EX S M M2 x, EX S M M2 y] [TX S a, TX S b] = EX S M M2 (x ^ a * y ^ b) := by
    rw [prodT, ec, if_pos rfl]
    have en : powP (nums [EX S M M2 x, EX S M M2 y]) (nums [TX S a, TX S b]) [EX S M M2 x, EX S M M2 y].length = E M M2 x ^ a * E M M2 y ^ b := by
      simp [nums, powP, EX, k.en h.hs (h.sl x), k.en h.hs (h.sl y), k.nu ha, k.nu hb]
    rw [en]
    have M1 : 1 ≤ M := by have := h.m1; omega
    have e : sgn M M2 (E M M2 x ^ a * E M M2 y ^ b % M2) = E M M2 (x ^ a * y ^ b) := by
      have ep : ∀ u c, sgn M M2 (E M M2 u ^ c % M2) = sgn M M2 (u ^ c % M2) := fun u c => by unfold E; rw [sgn_pow h.e2 M1 (h.ml u), ← Nat.pow_mod]
      rw [Nat.mul_mod, ← sgn_mul h.e2 (h.ml _) (h.ml _), ep x a, ep y b, sgn_mul h.e2 (h.ml _) (h.ml _), ← Nat.mul_mod]
      rfl
    rw [e]
    rfl
  rw [ec, et] at q
  exact q
theorem BAS (k : KD z G S Wd M low one sq Ri Wd2 M2 low2 one2 sq2 Ri2) (h : PK S M M2) (W : World) : Calls Tryz.prog 61 #[.int .i64 z] W fun e w' => e = .returned (.tuple #[.string (EX S M M2 2), .int .i64 0]) ∧ Below W.heap.size W w' := by
  rw [h.two]; exact bas_call k W
theorem SCA (k : KD z G S Wd M low one sq Ri Wd2 M2 low2 one2 sq2 Ri2) {s : ByteArray} {t : Bool} (hs : isSc S M s = t) (W : World) : Calls Tryz.prog 34 #[.int .i64 z, .string s] W fun e w' => e = .returned (.bool t) ∧ Below W.heap.size W w' := by
  rw [← hs]; exact scal_call k W s
theorem MEM (k : KD z G S Wd M low one sq Ri Wd2 M2 low2 one2 sq2 Ri2) {s : ByteArray} {t : Bool} (hs : isEl S M s = t) (W : World) : Calls Tryz.prog 33 #[.int .i64 z, .string s] W fun e w' => e = .returned (.bool t) ∧ Below W.heap.size W w' := by
  rw [← hs]; exact memb_call k W s
theorem GRO (k : KD z G S Wd M low one sq Ri Wd2 M2 low2 one2 sq2 Ri2) (W : World) : Calls Tryz.prog 12 #[.int .i64 z] W fun e w' => e = .returned (.tuple #[.agg #[.int .i64 z], .int .i64 0]) ∧ Below W.heap.size W w' := groundOf18 (fun V => size_call k V)
theorem nEl (k : KD z G S Wd M low one sq Ri Wd2 M2 low2 one2 sq2 Ri2) {s : ByteArray} {t : Bool} (hs : isEl S M s = !t) (W : World) : Calls Tryz.prog 13 #[.agg #[.int .i64 z], .string s] W fun e w' => e = .returned (.bool t) ∧ Below W.heap.size W w' := by
  have q := noElem19 (w := W) (z := z) (s := s) (q := !t) (fun V => MEM k hs V)
  rwa [Bool.not_not] at q
theorem nSc (k : KD z G S Wd M low one sq Ri Wd2 M2 low2 one2 sq2 Ri2) {s : ByteArray} {t : Bool} (hs : isSc S M s = !t) (W : World) : Calls Tryz.prog 14 #[.agg #[.int .i64 z], .string s] W fun e w' => e = .returned (.bool t) ∧ Below W.heap.size W w' := by
  have q := noScalar20 (w := W) (z := z) (s := s) (q := !t) (fun V => SCA k hs V)
  rwa [Bool.not_not] at q
theorem elE (k : KD z G S Wd M low one sq Ri Wd2 M2 low2 one2 sq2 Ri2) (h : PK S M M2) {x : Nat} (hx : ¬ M2 ∣ x) : isEl S M (EX S M M2 x) = true := k.ee h.hs (h.sp hx) (h.sl x)
/-- What is hidden. -/
theorem HID (k : KD z G S Wd M low one sq Ri Wd2 M2 low2 one2 sq2 Ri2) (h : PK S M M2) {K X n : Nat} (hK : ¬ M2 ∣ K) (hX : X < M) (hn : n < M) (W : World) :
    Calls Tryz.prog 15 #[.agg #[.int .i64 z], .string (EX S M M2 K), .string (TX S X), .string (TX S n)] W fun e w' => e = .returned (.agg #[.string (EX S M M2 (2 ^ n)), .string (EX S M M2 (2 ^ X * K ^ n))]) ∧ Below W.heap.size W w' :=
  hide21 (fun V => base43 (fun V => BAS k h V)) (fun V b1 b2 h1 h2 => PRO k h h.n2 hK hX hn V b1 b2 h1 h2) (fun V => power44 (fun V => POW k h h.n2 hn V))
theorem ENC (k : KD z G S Wd M low one sq Ri Wd2 M2 low2 one2 sq2 Ri2) (h : PK S M M2) {K X n : Nat} (hK : ¬ M2 ∣ K) (hX : X < M) (hn : n < M) (W : World) :
    Calls Tryz.prog 4 #[.int .i64 z, .string (EX S M M2 K), .string (TX S X), .string (TX S n)] W fun e w' => e = .returned (.tuple #[.agg #[.string (EX S M M2 (2 ^ n)), .string (EX S M M2 (2 ^ X * K ^ n))], .int .i64 0]) ∧ Below W.heap.size W w' :=
  enc_ok (fun V => GRO k V) (fun V => nEl k (elE k h hK) V) (fun V => nSc k (k.sc hX) V) (fun V => nSc k (k.sc hn) V) (fun V => HID k h hK hX hn V)
theorem ENC6 (k : KD z G S Wd M low one sq Ri Wd2 M2 low2 one2 sq2 Ri2) (h : PK S M M2) {K : Nat} (hK : ¬ M2 ∣ K) {x n : ByteArray} (hb : isSc S M x = false ∨ isSc S M n = false) (W : World) :
    Calls Tryz.prog 4 #[.int .i64 z, .string (EX S M M2 K), .string x, .string n] W fun e w' => e = .returned (.tuple #[.agg #[.string ⟨#[]⟩, .string ⟨#[]⟩], .int .i64 6]) ∧ Below W.heap.size W w' := by
  cases hx : isSc S M x with
  | false => exact enc_sc1 (fun V => GRO k V) (fun V => nEl k (elE k h hK) V) (fun V => nSc k hx V)
  | true =>
    rw [hx] at hb
    exact enc_sc2 (fun V => GRO k V) (fun V => nEl k (elE k h hK) V) (fun V => nSc k hx V) (fun V => nSc k (by simpa using hb) V)
theorem SHO (k : KD z G S Wd M low one sq Ri Wd2 M2 low2 one2 sq2 Ri2) (h : PK S M M2) {s A B : Nat} (hs : s < M) (hA : ¬ M2 ∣ A) (hB : ¬ M2 ∣ B) (W : World) :
    Calls Tryz.prog 10 #[.int .i64 z, .string (TX S s), .agg #[.string (EX S M M2 A), .string (EX S M M2 B)]] W fun e w' => e = .returned (.tuple #[.string (EX S M M2 (B * (A ^ s) ^ (M2 - 2))), .int .i64 0]) ∧ Below W.heap.size W w' :=
  dec_ok (fun V => GRO k V) (fun V => nSc k (k.sc hs) V) (fun V => noCipher22 (fun V => nEl k (elE k h hA) V) (fun V => nEl k (elE k h hB) V))
    (fun V => shown25 (fun V => power44 (fun V => POW k h hA hs V)) (fun V => under47 (fun V => UND k h (h.np hA s) V)) (fun V => times45 (fun V => TIM k h hB (h.np (h.np hA s) _) V)))
theorem REN (k : KD z G S Wd M low one sq Ri Wd2 M2 low2 one2 sq2 Ri2) (h : PK S M M2) {K A B n : Nat} (hK : ¬ M2 ∣ K) (hA : ¬ M2 ∣ A) (hB : ¬ M2 ∣ B) (hn : n < M) (W : World) :
    Calls Tryz.prog 8 #[.int .i64 z, .string (EX S M M2 K), .agg #[.string (EX S M M2 A), .string (EX S M M2 B)], .string (TX S n)] W fun e w' => e = .returned (.tuple #[.agg #[.string (EX S M M2 (A * 2 ^ n)), .string (EX S M M2 (B * (2 ^ 0 * K ^ n)))], .int .i64 0]) ∧ Below W.heap.size W w' :=
  renew_ok (fun V => GRO k V) (fun V => nEl k (elE k h hK) V) (fun V => noCipher22 (fun V => nEl k (elE k h hA) V) (fun V => nEl k (elE k h hB) V)) (fun V => nSc k (k.sc hn) V)
    (fun V => number24 (fun V => zero_call k V)) (fun V => HID k h hK (by have := h.m1; omega) hn V)
    (fun V => both23 (fun V => times45 (fun V => TIM k h hA (h.np h.n2 n) V)) (fun V => times45 (fun V => TIM k h hB (h.nm (h.np h.n2 0) (h.np hK n)) V)))
theorem toList_iff (a b : ByteArray) : a.toList = b.toList ↔ a = b := by
  constructor
  · intro h
    rw [ByteArray.toList_eq, ByteArray.toList_eq] at h
    exact ByteArray.ext (Array.toList_inj.1 h)
  · rintro rfl; rfl
theorem nil_el {S M M2 : Nat} (h : PK S M M2) : isEl S M ⟨#[]⟩ = false := by
  have : S ≠ 0 := fun e => by have := h.hs; have := h.m1; rw [e] at *; simp at *; omega
  refine decide_eq_false fun q => this ?_
  exact q.1.symm
theorem ENC7 (k : KD z G S Wd M low one sq Ri Wd2 M2 low2 one2 sq2 Ri2) (h : PK S M M2) {x n : ByteArray} (W : World) :
    Calls Tryz.prog 4 #[.int .i64 z, .string ⟨#[]⟩, .string x, .string n] W fun e w' => e = .returned (.tuple #[.agg #[.string ⟨#[]⟩, .string ⟨#[]⟩], .int .i64 7]) ∧ Below W.heap.size W w' :=
  enc_elem (fun V => GRO k V) (fun V => nEl k (nil_el h) V)
theorem pk1 : PK 2 641 1283 := ⟨prime_p1, prime_q1, by decide +kernel, by decide +kernel⟩
theorem pk2 : PK 8 576465431670292481 1152930863340584963 := ⟨prime_p2, prime_q2, by decide +kernel, by decide +kernel⟩
theorem pk3 : PK 32 7237005577332262213973186563042995786902308146886443998308627866733439352833 14474011154664524427946373126085991573804616293772887996617255733466878705667 := ⟨prime_p3, prime_q3, by decide +kernel, by decide +kernel⟩
theorem enc_no {w : World} {key x n : ByteArray} (z1 : ¬ z = 1) (z2 : ¬ z = 2) (z3 : ¬ z = 3) : Calls Tryz.prog 4 #[.int .i64 z, .string key, .string x, .string n] w fun e w' => e = .returned (.tuple #[.agg #[.string ⟨#[]⟩, .string ⟨#[]⟩], .int .i64 1]) ∧ Below w.heap.size w w' := by
  have G := fun W => ground0 W z (beq_eq_false_iff_ne.2 z1) (beq_eq_false_iff_ne.2 z2) (beq_eq_false_iff_ne.2 z3)
  exact enc_none (fun V => groundOf18 (fun V => sizes_call (on46_no 52 rfl size70 (by kernel_rfl) G))) (by decide)
end
end Go.Proofs.YtohpbclofcflaaaGreat
