/- The walk of NatField, whole. -/
import Derived.Test.YtnahindcgedbaabDoorFieldWalkB
set_option linter.unusedSimpArgs false
set_option linter.unusedVariables false
namespace Go.Proofs.YtnahindcgedbaabDoor
open Go.RowKit Go.Deep Go.PlainAid

/-- A fraction in lowest terms, of at most k digits above and below. -/
structure Fq (k a b : Nat) : Prop where
  pos : b ≠ 0
  cop : Nat.gcd a b = 1
  top : a < 10 ^ k
  low : b < 10 ^ k
theorem pow10_pos (k : Nat) : 0 < 10 ^ k := Nat.pow_pos (by omega)
theorem Fq.wr {k a b : Nat} (h : Fq k a b) (h1 : 1 ≤ k) (hk : k ≤ 4000) : wrF (T a) (T b) = 0 := by
  have l1 := txt_len_le a k h1 h.top
  have l2 := txt_len_le b k h1 h.low
  have i1 : isNum (T a).data.toList = true := by rw [T_list]; exact isNum_txt a
  have i2 : isNum (T b).data.toList = true := by rw [T_list]; exact isNum_txt b
  unfold wrF
  rw [if_neg (by simp [i1, i2]), if_neg (by rw [T_size, T_size]; omega), if_neg (by rw [T_bv, T_bv]; intro hx; rcases hx with hx | hx; exact h.pos hx; exact hx h.cop)]
theorem Fq.plus {k m a b u v : Nat} (h : Fq k a b) (g : Fq m u v) : Fq (k + m + 1) (lo (a * v + u * b) (b * v)) (ld (a * v + u * b) (b * v)) := by
  have hbv : b * v ≠ 0 := Nat.mul_ne_zero h.pos g.pos
  have p : 10 ^ (k + m + 1) = 10 * (10 ^ k * 10 ^ m) := by rw [Nat.pow_succ, Nat.pow_add, Nat.mul_comm]
  have q1 : a * v < 10 ^ k * 10 ^ m := Nat.mul_lt_mul_of_lt_of_lt h.top g.low
  have q2 : u * b < 10 ^ k * 10 ^ m := by rw [Nat.mul_comm (10 ^ k)]; exact Nat.mul_lt_mul_of_lt_of_lt g.top h.low
  have q3 : b * v < 10 ^ k * 10 ^ m := Nat.mul_lt_mul_of_lt_of_lt h.low g.low
  refine ⟨ld_ne hbv, lo_cop hbv, ?_, ?_⟩
  · have := lo_le (a * v + u * b) (b * v); omega
  · have := ld_le (a * v + u * b) (b * v); omega
theorem Fq.times {k m a b u v : Nat} (h : Fq k a b) (g : Fq m u v) : Fq (k + m) (lo (a * u) (b * v)) (ld (a * u) (b * v)) := by
  have hbv : b * v ≠ 0 := Nat.mul_ne_zero h.pos g.pos
  have p : 10 ^ (k + m) = 10 ^ k * 10 ^ m := Nat.pow_add _ _ _
  have q1 : a * u < 10 ^ k * 10 ^ m := Nat.mul_lt_mul_of_lt_of_lt h.top g.top
  have q3 : b * v < 10 ^ k * 10 ^ m := Nat.mul_lt_mul_of_lt_of_lt h.low g.low
  refine ⟨ld_ne hbv, lo_cop hbv, ?_, ?_⟩
  · have := lo_le (a * u) (b * v); omega
  · have := ld_le (a * u) (b * v); omega
abbrev FS (a b : Nat) : Value := .agg #[.string (T a), .string (T b)]
theorem law_plus {k m a b u v : Nat} (h : Fq k a b) (g : Fq m u v) (k1 : 1 ≤ k) (k2 : k ≤ 4000) (m1 : 1 ≤ m) (m2 : m ≤ 4000) (w : World) :
    Calls Tryd.prog 6 #[FS a b, FS u v] w fun e w' => e = .returned (FS (lo (a * v + u * b) (b * v)) (ld (a * v + u * b) (b * v))) ∧ Below w.heap.size w w' :=
  lawPlus_call (c := 0) (fun W => plusFr_ok (h.wr k1 k2) (g.wr m1 m2) _ _ _ _ (T_bv a) (T_bv b) (T_bv u) (T_bv v))
theorem law_times {k m a b u v : Nat} (h : Fq k a b) (g : Fq m u v) (k1 : 1 ≤ k) (k2 : k ≤ 4000) (m1 : 1 ≤ m) (m2 : m ≤ 4000) (w : World) :
    Calls Tryd.prog 5 #[FS a b, FS u v] w fun e w' => e = .returned (FS (lo (a * u) (b * v)) (ld (a * u) (b * v))) ∧ Below w.heap.size w w' :=
  lawTimes_call (c := 0) (fun W => timesFr_ok (h.wr k1 k2) (g.wr m1 m2) _ _ _ _ (T_bv a) (T_bv b) (T_bv u) (T_bv v))
theorem law_minus {k m a b u v : Nat} (h : Fq k a b) (g : Fq m u v) (k1 : 1 ≤ k) (k2 : k ≤ 4000) (m1 : 1 ≤ m) (m2 : m ≤ 4000) (hle : u * b ≤ a * v) (w : World) :
    Calls Tryd.prog 7 #[FS a b, FS u v] w fun e w' => e = .returned (.tuple #[FS (lo (a * v - u * b) (b * v)) (ld (a * v - u * b) (b * v)), .int .i64 0]) ∧ Below w.heap.size w w' :=
  minusFr_ok (h.wr k1 k2) (g.wr m1 m2) _ _ _ _ (T_bv a) (T_bv b) (T_bv u) (T_bv v) hle
theorem law_over {k m a b u v : Nat} (h : Fq k a b) (g : Fq m u v) (k1 : 1 ≤ k) (k2 : k ≤ 4000) (m1 : 1 ≤ m) (m2 : m ≤ 4000) (hu : u ≠ 0) (w : World) :
    Calls Tryd.prog 8 #[FS a b, FS u v] w fun e w' => e = .returned (.tuple #[FS (lo (a * v) (b * u)) (ld (a * v) (b * u)), .int .i64 0]) ∧ Below w.heap.size w w' :=
  overFr_ok (h.wr k1 k2) (g.wr m1 m2) _ _ _ _ (T_bv a) (T_bv b) (T_bv u) (T_bv v) hu
theorem law_order {k m a b u v : Nat} (h : Fq k a b) (g : Fq m u v) (k1 : 1 ≤ k) (k2 : k ≤ 4000) (m1 : 1 ≤ m) (m2 : m ≤ 4000) (w : World) :
    Calls Tryd.prog 9 #[FS a b, FS u v] w fun e w' => e = .returned (.tuple #[.int .i64 (cmp3 ((a * v : Nat) : Int) ((u * b : Nat) : Int)), .int .i64 0]) ∧ Below w.heap.size w w' :=
  orderFr_ok (h.wr k1 k2) (g.wr m1 m2) _ _ _ _ (T_bv a) (T_bv b) (T_bv u) (T_bv v)
theorem cmp_affine {x x' y y' s P R : Nat} (hP : 0 < P) (hR : 0 < R) (h1 : x * P = y * R + s) (h2 : x' * P = y' * R + s) : cmp3 (x : Int) (x' : Int) = cmp3 (y : Int) (y' : Int) := by
  rcases Nat.lt_trichotomy y y' with h | h | h
  · have a1 : y * R < y' * R := Nat.mul_lt_mul_of_pos_right h hR
    have a2 : x < x' := Nat.lt_of_mul_lt_mul_right (a := P) (by omega)
    rw [cmp3_lt (by omega), cmp3_lt (by omega)]
  · subst h
    have a2 : x = x' := Nat.eq_of_mul_eq_mul_right hP (by omega)
    subst a2
    rw [cmp3_eq rfl, cmp3_eq rfl]
  · have a1 : y' * R < y * R := Nat.mul_lt_mul_of_pos_right h hR
    have a2 : x' < x := Nat.lt_of_mul_lt_mul_right (a := P) (by omega)
    rw [cmp3_gt (by omega), cmp3_gt (by omega)]
theorem order_sums {a b u v e f : Nat} (hb : b ≠ 0) (hv : v ≠ 0) (hf : f ≠ 0) :
    cmp3 ((lo (a * f + e * b) (b * f) * ld (u * f + e * v) (v * f) : Nat) : Int) ((lo (u * f + e * v) (v * f) * ld (a * f + e * b) (b * f) : Nat) : Int) = cmp3 ((a * v : Nat) : Int) ((u * b : Nat) : Int) := by
  have c1 := lo_cross (N := a * f + e * b) (Nat.mul_ne_zero hb hf)
  have c2 := lo_cross (N := u * f + e * v) (Nat.mul_ne_zero hv hf)
  have p1 := ld_ne (N := a * f + e * b) (Nat.mul_ne_zero hb hf)
  have p2 := ld_ne (N := u * f + e * v) (Nat.mul_ne_zero hv hf)
  generalize lo (a * f + e * b) (b * f) = E1 at *
  generalize ld (a * f + e * b) (b * f) = E2 at *
  generalize lo (u * f + e * v) (v * f) = Q1 at *
  generalize ld (u * f + e * v) (v * f) = Q2 at *
  refine cmp_affine (P := (b * f) * (v * f)) (R := f * f * E2 * Q2) (s := e * b * v * f * E2 * Q2) (Nat.mul_pos (Nat.mul_pos (Nat.pos_of_ne_zero hb) (Nat.pos_of_ne_zero hf)) (Nat.mul_pos (Nat.pos_of_ne_zero hv) (Nat.pos_of_ne_zero hf))) (Nat.mul_pos (Nat.mul_pos (Nat.mul_pos (Nat.pos_of_ne_zero hf) (Nat.pos_of_ne_zero hf)) (Nat.pos_of_ne_zero p1)) (Nat.pos_of_ne_zero p2)) ?_ ?_
  · have : E1 * Q2 * (b * f * (v * f)) = (E1 * (b * f)) * (Q2 * (v * f)) := by grind
    rw [this, c1]; grind
  · have : Q1 * E2 * (b * f * (v * f)) = (Q1 * (v * f)) * (E2 * (b * f)) := by grind
    rw [this, c2]; grind
theorem natField_good {a b u v e f : Nat} (hX : Fq 600 a b) (hY : Fq 600 u v) (hZ : Fq 600 e f) (w : World)
    (C4 : ∀ W g, IHolds W g 23 [.string (T a), .string (T b), .string (T u), .string (T v), .string (T e), .string (T f)] → Calls Tryd.prog 4 #[.slice (some ⟨g, 0, none⟩) 3 3, .int .i64 600] W fun e w' => e = .returned (.bool true) ∧ Below W.heap.size W w') :
    Calls Tryd.prog 3 #[FS a b, FS u v, FS e f] w fun e w' => e = .returned (.bool true) ∧ Below w.heap.size w w' := by
  have hb := hX.pos
  have hv := hY.pos
  have hf := hZ.pos
  have hbv := Nat.mul_ne_zero hb hv
  have hvf := Nat.mul_ne_zero hv hf
  have hbf := Nat.mul_ne_zero hb hf
  have oneF : Fq 1 1 1 := ⟨by omega, rfl, by omega, by omega⟩
  have zeroF : Fq 1 0 1 := ⟨by omega, rfl, by omega, by omega⟩
  have hA := hX.plus hY
  have hQ := hY.plus hZ
  have hM := hX.times hY
  have hK := hY.times hZ
  have hV := hX.times hZ
  have hE := hX.plus hZ
  have ox := lo_own hX.cop
  have T1 : ∀ W, Calls Tryd.prog 5 #[FS a b, .agg #[.string ⟨#[49]⟩, .string ⟨#[49]⟩]] W fun e w' => e = .returned (FS a b) ∧ Below W.heap.size W w' := fun W => by
    have := law_times hX oneF (by omega) (by omega) (by omega) (by omega) W
    rw [Nat.mul_one, Nat.mul_one, ox.1, ox.2] at this
    rw [oneT]; exact this
  have P1 : ∀ W, Calls Tryd.prog 6 #[FS a b, .agg #[.string ⟨#[48]⟩, .string ⟨#[49]⟩]] W fun e w' => e = .returned (FS a b) ∧ Below W.heap.size W w' := fun W => by
    have := law_plus hX zeroF (by omega) (by omega) (by omega) (by omega) W
    rw [Nat.mul_one, Nat.mul_one, Nat.zero_mul, Nat.add_zero, ox.1, ox.2] at this
    rw [oneT, zeroT]; exact this
  have P2 : ∀ W, Calls Tryd.prog 6 #[.agg #[.string ⟨#[49]⟩, .string ⟨#[49]⟩], .agg #[.string ⟨#[49]⟩, .string ⟨#[49]⟩]] W fun e w' => e = .returned (.agg #[.string ⟨#[50]⟩, .string ⟨#[49]⟩]) ∧ Below W.heap.size W w' := fun W => by
    have := law_plus oneF oneF (by omega) (by omega) (by omega) (by omega) W
    rw [show lo (1 * 1 + 1 * 1) (1 * 1) = 2 from rfl, show ld (1 * 1 + 1 * 1) (1 * 1) = 1 from rfl] at this
    rw [oneT, twoT]; exact this
  have PA := law_plus hX hY (by omega) (by omega) (by omega) (by omega)
  have PQ := law_plus hY hZ (by omega) (by omega) (by omega) (by omega)
  have TM := law_times hX hY (by omega) (by omega) (by omega) (by omega)
  have TK := law_times hY hZ (by omega) (by omega) (by omega) (by omega)
  have TV := law_times hX hZ (by omega) (by omega) (by omega) (by omega)
  have PE := law_plus hX hZ (by omega) (by omega) (by omega) (by omega)
  have PC := law_plus hA hZ (by omega) (by omega) (by omega) (by omega)
  have r1 := plus_left (N := a * v + u * b) (e := e) hbv hf
  rw [r1.1, r1.2] at PC
  have PC2 := law_plus hX hQ (by omega) (by omega) (by omega) (by omega)
  have r2 := plus_right (N := u * f + e * v) (e := a) hvf hb
  rw [r2.1, r2.2, show a * (v * f) + (u * f + e * v) * b = (a * v + u * b) * f + e * (b * v) by grind, show b * (v * f) = b * v * f by grind] at PC2
  have TL := law_times hM hZ (by omega) (by omega) (by omega) (by omega)
  have r3 := times_left (N := a * u) (e := e) hbv hf
  rw [r3.1, r3.2] at TL
  have TL2 := law_times hX hK (by omega) (by omega) (by omega) (by omega)
  have r4 := times_right (N := u * e) (e := a) hvf hb
  rw [r4.1, r4.2, show a * (u * e) = a * u * e by grind, show b * (v * f) = b * v * f by grind] at TL2
  have TD := law_times hX hQ (by omega) (by omega) (by omega) (by omega)
  have r5 := times_right (N := u * f + e * v) (e := a) hvf hb
  rw [r5.1, r5.2] at TD
  have PD := law_plus hM hV (by omega) (by omega) (by omega) (by omega)
  have r6 := plus_both (N := a * u) (M := a * e) hbv hbf
  have r7 := lo_same (N := a * u * (b * f) + a * e * (b * v)) (D := b * v * (b * f)) (M := a * (u * f + e * v)) (E := b * (v * f)) (Nat.mul_ne_zero hbv hbf) (Nat.mul_ne_zero hb hvf) (by grind)
  rw [r6.1, r6.2, r7.1, r7.2] at PD
  have PA2 := law_plus hY hX (by omega) (by omega) (by omega) (by omega)
  rw [Nat.add_comm (u * b), Nat.mul_comm v b] at PA2
  have TM2 := law_times hY hX (by omega) (by omega) (by omega) (by omega)
  rw [Nat.mul_comm u a, Nat.mul_comm v b] at TM2
  have mb := minus_back hbv hv a b hX.cop hb (e := u) (N := a * v + u * b) rfl rfl
  have FM := law_minus hA hY (by omega) (by omega) (by omega) (by omega) mb.1
  rw [mb.2.1, mb.2.2] at FM
  have F1 := law_order hX hY (by omega) (by omega) (by omega) (by omega)
  have F2 := law_order hE hQ (by omega) (by omega) (by omega) (by omega)
  rw [order_sums hb hv hf] at F2
  have hq : (cmp3 ((a * v : Nat) : Int) ((u * b : Nat) : Int) = 0 ∧ T a = T u ∧ T b = T v) ∨ (cmp3 ((a * v : Nat) : Int) ((u * b : Nat) : Int) ≠ 0 ∧ T a ≠ T u) ∨ (cmp3 ((a * v : Nat) : Int) ((u * b : Nat) : Int) ≠ 0 ∧ T a = T u ∧ T b ≠ T v) := by
    by_cases h : a * v = u * b
    · obtain ⟨k1, k2⟩ := cop_same hb hv hX.cop hY.cop h
      exact Or.inl ⟨cmp3_eq (by omega), by rw [k1], by rw [k2]⟩
    · have hn : cmp3 ((a * v : Nat) : Int) ((u * b : Nat) : Int) ≠ 0 := by unfold cmp3; split <;> (try split) <;> omega
      by_cases h1 : T a = T u
      · refine Or.inr (Or.inr ⟨hn, h1, fun h2 => h ?_⟩)
        have k1 := T_inj h1
        have k2 := T_inj h2
        rw [k1, k2]
      · exact Or.inr (Or.inl ⟨hn, h1⟩)
  by_cases hu : u = 0
  · have y1 : ((T u).toList == [48]) = true := by rw [hu]; exact toList_yes _ _ zeroT.symm
    have y2 : ((T u).toList != [48]) = false := by unfold bne; rw [y1]; rfl
    exact field_good_zero C4 T1 P1 P2 PA PC PQ PC2 TM TL TK TL2 TD TV PD PA2 TM2 PE FM F1 F2 y1 y2 hq
  · have y1 : ((T u).toList == [48]) = false := toList_no _ _ (fun h => hu (T_inj (h.trans zeroT)))
    have y2 : ((T u).toList != [48]) = true := by unfold bne; rw [y1]; rfl
    have ob := over_back hbv hv hu a b hX.cop hb (N := a * u) rfl rfl
    have FO := law_over hM hY (by omega) (by omega) (by omega) (by omega) hu
    rw [ob.1, ob.2] at FO
    exact field_good_some C4 T1 P1 P2 PA PC PQ PC2 TM TL TK TL2 TD TV PD PA2 TM2 PE FM FO F1 F2 y1 y2 hq
theorem Gd.fq {n d : ByteArray} (h : Gd n d) : Fq 600 (bv n.data.toList) (bv d.data.toList) ∧ n = T (bv n.data.toList) ∧ d = T (bv d.data.toList) := by
  obtain ⟨h1, h2, h3⟩ := h
  obtain ⟨k1, k2, k3, k4⟩ := wrF_zero h1
  obtain ⟨i1, _⟩ := wrT_zero k1
  obtain ⟨i2, _⟩ := wrT_zero k2
  exact ⟨⟨k3, k4, T_lt n 600 i1 h2, T_lt d 600 i2 h3⟩, T_of n i1, T_of d i2⟩
theorem natField_walk (n1 d1 n2 d2 n3 d3 : ByteArray) (w : World) (s1 : n1.size ≤ 4611686018427387904) (s2 : d1.size ≤ 4611686018427387904) (s3 : n2.size ≤ 4611686018427387904) (s4 : d2.size ≤ 4611686018427387904) (s5 : n3.size ≤ 4611686018427387904) (s6 : d3.size ≤ 4611686018427387904) :
    Calls Tryd.prog 3 #[.agg #[.string n1, .string d1], .agg #[.string n2, .string d2], .agg #[.string n3, .string d3]] w fun e w' => e = .returned (.bool true) ∧ Below w.heap.size w w' := by
  by_cases h : Gd n1 d1 ∧ Gd n2 d2 ∧ Gd n3 d3
  · obtain ⟨g1, g2, g3⟩ := h
    have C4 := fun W g (hI : IHolds W g 23 [.string n1, .string d1, .string n2, .string d2, .string n3, .string d3]) => good_any true hI (fun _ _ _ => rfl) (fun h => absurd g1 h) (fun h => absurd g2 h) (fun h => absurd g3 h) s1 s2 s3 s4 s5 s6
    obtain ⟨q1, e1, e2⟩ := g1.fq
    obtain ⟨q2, e3, e4⟩ := g2.fq
    obtain ⟨q3, e5, e6⟩ := g3.fq
    generalize bv n1.data.toList = a at *
    generalize bv d1.data.toList = b at *
    generalize bv n2.data.toList = u at *
    generalize bv d2.data.toList = v at *
    generalize bv n3.data.toList = e at *
    generalize bv d3.data.toList = f at *
    subst e1 e2 e3 e4 e5 e6
    exact natField_good q1 q2 q3 w C4
  · refine field_not (fun W g hI => good_any false hI (fun a b c => absurd ⟨a, b, c⟩ h) (fun _ => rfl) (fun _ => rfl) (fun _ => rfl) s1 s2 s3 s4 s5 s6)
end Go.Proofs.YtnahindcgedbaabDoor
