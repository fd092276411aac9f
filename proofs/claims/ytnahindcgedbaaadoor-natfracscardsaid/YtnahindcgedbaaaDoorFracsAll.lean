/- The walk of NatFracs, whole. -/
import Derived.Test.YtnahindcgedbaaaDoorFracsWalkA
import Derived.Test.YtnahindcgedbaaaDoorFracsWalkB
import Derived.Test.YtnahindcgedbaaaDoorFracsWalkC
import Derived.Test.YtnahindcgedbaaaDoorFracsWalkD
set_option linter.unusedSimpArgs false
set_option linter.unusedVariables false
namespace Go.Proofs.YtnahindcgedbaaaDoor
open Go.RowKit Go.Deep Go.PlainAid

theorem len_sum10 (n m k : Nat) (h1 : (dg 10 n).length ≤ k) (h2 : (dg 10 m).length ≤ k) : (dg 10 (n + m)).length ≤ k + 1 :=
  dg_len_le ten _ _ (by
    have a1 := lt_pow_dg ten n
    have a2 := lt_pow_dg ten m
    have b1 : 10 ^ (dg 10 n).length ≤ 10 ^ k := Nat.pow_le_pow_right (by omega) h1
    have b2 : 10 ^ (dg 10 m).length ≤ 10 ^ k := Nat.pow_le_pow_right (by omega) h2
    rw [Nat.pow_succ]; omega)
theorem len_quot10 {n g k : Nat} (h : (dg 10 n).length ≤ k) : (dg 10 (n / g)).length ≤ k := Nat.le_trans (dg_len_mono ten (Nat.div_le_self _ _)) h
theorem len_mul10 {n m k : Nat} (h1 : (dg 10 n).length ≤ k) (h2 : (dg 10 m).length ≤ k) : (dg 10 (n * m)).length ≤ k + k := Nat.le_trans (dg_len_mul ten _ _) (by omega)
theorem len_one10 : (dg 10 1).length = 1 := by
  rw [dg_pos ten (by omega)]; simp [dg_zero]

theorem natFracs_good {n1 d1 n2 d2 : ByteArray} {w : World} (e1 : wrF n1 d1 = 0) (e2 : wrF n2 d2 = 0) :
    Calls Tryd.prog 5 #[.agg #[.string n1, .string d1], .agg #[.string n2, .string d2]] w fun e w' => e = .returned (.bool true) ∧ Below w.heap.size w w' := by
  obtain ⟨k1, k2, k3, k4⟩ := wrF_zero e1
  obtain ⟨k5, k6, k7, k8⟩ := wrF_zero e2
  obtain ⟨i1, s1⟩ := wrT_zero k1
  obtain ⟨i2, s2⟩ := wrT_zero k2
  obtain ⟨i3, s3⟩ := wrT_zero k5
  obtain ⟨i4, s4⟩ := wrT_zero k6
  have l1 := dg_len_bv10 n1 k1
  have l2 := dg_len_bv10 d1 k2
  have l3 := dg_len_bv10 n2 k5
  have l4 := dg_len_bv10 d2 k6
  have F25a : ∀ W, Calls Tryd.prog 25 #[.string n1, .string d1] W fun e w' => e = .returned (.int .i64 0) ∧ Below W.heap.size W w' := fun W => by
    have := wrongFrac_any n1 d1 W (by omega) (by omega); rw [e1] at this; exact this
  have F25b : ∀ W, Calls Tryd.prog 25 #[.string n2, .string d2] W fun e w' => e = .returned (.int .i64 0) ∧ Below W.heap.size W w' := fun W => by
    have := wrongFrac_any n2 d2 W (by omega) (by omega); rw [e2] at this; exact this
  have F26 : ∀ W, Calls Tryd.prog 26 #[.int .i64 1] W fun e w' => (∃ u1 u2, e = .returned (.agg #[u1, u2]) ∧ NumV w' 10 1 u1 ∧ NumV w' 10 1 u2) ∧ Below W.heap.size W w' := fun W => refWhole_any W 1 (by omega)
  have F27a : ∀ W, Calls Tryd.prog 27 #[.agg #[.string n1, .string d1]] W fun e w' => (∃ u1 u2, e = .returned (.agg #[u1, u2]) ∧ NumV w' 10 (bv n1.data.toList) u1 ∧ NumV w' 10 (bv d1.data.toList) u2) ∧ Below W.heap.size W w' := fun W => lawRead_any n1 d1 _ _ W (fun W => refRead_any n1 W (isNum_all i1) (by omega)) (fun W => refRead_any d1 W (isNum_all i2) (by omega))
  have F27b : ∀ W, Calls Tryd.prog 27 #[.agg #[.string n2, .string d2]] W fun e w' => (∃ u1 u2, e = .returned (.agg #[u1, u2]) ∧ NumV w' 10 (bv n2.data.toList) u1 ∧ NumV w' 10 (bv d2.data.toList) u2) ∧ Below W.heap.size W w' := fun W => lawRead_any n2 d2 _ _ W (fun W => refRead_any n2 W (isNum_all i3) (by omega)) (fun W => refRead_any d2 W (isNum_all i4) (by omega))
  have P := fun W => plusFr_ok (w := W) e1 e2 _ _ _ _ rfl rfl rfl rfl
  have X := fun W => timesFr_ok (w := W) e1 e2 _ _ _ _ rfl rfl rfl rfl
  have O := fun W => orderFr_ok (w := W) e1 e2 _ _ _ _ rfl rfl rfl rfl
  have ML := fun W => minusFr_low (w := W) e1 e2 _ _ _ _ rfl rfl rfl rfl
  have MO := fun W => minusFr_ok (w := W) e1 e2 _ _ _ _ rfl rfl rfl rfl
  have VZ := fun W => overFr_zero (w := W) e1 e2 _ _ _ _ rfl rfl rfl rfl
  have VO := fun W => overFr_ok (w := W) e1 e2 _ _ _ _ rfl rfl rfl rfl
  have TZ : ∀ (y : Int), (y != 0) = true → ∀ W p1 p2, Calls Tryd.prog 29 #[.agg #[.string ⟨#[]⟩, .string ⟨#[]⟩], .int .i64 y, .int .i64 y, .agg #[p1, p2]] W fun e w' => e = .returned (.bool true) ∧ Below W.heap.size W w' := fun y hy W p1 p2 => told_bad y hy
  generalize bv n1.data.toList = a at *
  generalize bv d1.data.toList = b at *
  generalize bv n2.data.toList = u at *
  generalize bv d2.data.toList = v at *
  have hbv : b * v ≠ 0 := Nat.mul_ne_zero k3 k7
  have lav := len_mul10 l1 l4
  have lub := len_mul10 l3 l2
  have lbv := len_mul10 l2 l4
  have lau := len_mul10 l1 l3
  have lbu := len_mul10 l2 l3
  have lsum := len_sum10 (a * v) (u * b) 8000 (by omega) (by omega)
  have ldif : (dg 10 (a * v - u * b)).length ≤ 8000 := Nat.le_trans (dg_len_mono ten (Nat.sub_le _ _)) (by omega)
  have lg : ∀ {x g : Nat}, (dg 10 x).length ≤ 8001 → (dg 10 (x / g)).length ≤ 1000000 := fun h => Nat.le_trans (len_quot10 h) (by omega)
  have G30 := fun W p1 p2 p3 p4 (h1 : NumV W 10 a p1) (h2 : NumV W 10 b p2) (h3 : NumV W 10 u p3) (h4 : NumV W 10 v p4) => refPlusV ⟨h1, h2, h3, h4⟩ hbv (by omega) (by omega) (by omega) (by omega)
  have G32 := fun W p1 p2 p3 p4 (h1 : NumV W 10 a p1) (h2 : NumV W 10 b p2) (h3 : NumV W 10 u p3) (h4 : NumV W 10 v p4) => refTimesV ⟨h1, h2, h3, h4⟩ hbv (by omega) (by omega) (by omega) (by omega)
  have G34 := fun W p1 p2 p3 p4 (h1 : NumV W 10 a p1) (h2 : NumV W 10 b p2) (h3 : NumV W 10 u p3) (h4 : NumV W 10 v p4) => refOrderV ⟨h1, h2, h3, h4⟩ (by omega) (by omega) (by omega) (by omega)
  have TP := fun W p1 p2 h1 h2 => toldV (w := W) (p1 := p1) (p2 := p2) _ _ h1 h2 (lg (x := a * v + u * b) (g := Nat.gcd (a * v + u * b) (b * v)) (by omega)) (lg (x := b * v) (g := Nat.gcd (a * v + u * b) (b * v)) (by omega))
  have TQ := fun W p1 p2 h1 h2 => toldV (w := W) (p1 := p1) (p2 := p2) _ _ h1 h2 (lg (x := a * u) (g := Nat.gcd (a * u) (b * v)) (by omega)) (lg (x := b * v) (g := Nat.gcd (a * u) (b * v)) (by omega))
  have TM := fun W p1 p2 h1 h2 => toldV (w := W) (p1 := p1) (p2 := p2) _ _ h1 h2 (lg (x := a * v - u * b) (g := Nat.gcd (a * v - u * b) (b * v)) (by omega)) (lg (x := b * v) (g := Nat.gcd (a * v - u * b) (b * v)) (by omega))
  have TO := fun W p1 p2 h1 h2 => toldV (w := W) (p1 := p1) (p2 := p2) _ _ h1 h2 (lg (x := a * v) (g := Nat.gcd (a * v) (b * u)) (by omega)) (lg (x := b * u) (g := Nat.gcd (a * v) (b * u)) (by omega))
  by_cases hlt : a * v < u * b
  · have hz : cmp3 ((a * v : Nat) : Int) ((u * b : Nat) : Int) < 0 := by rw [cmp3_lt (by omega)]; omega
    by_cases hu : u = 0
    · exact fracs_ok_low_zero (DM := 0) (NM := 0) (NO := 0) (DO := 0) (M1 := ⟨#[]⟩) (M2 := ⟨#[]⟩) (O1 := ⟨#[]⟩) (O2 := ⟨#[]⟩) F25a F25b F26 F27a F27b P X (fun W => ML W hlt) (fun W => VZ W hu) O G30 G32 G34 hz TP TQ TZ hu
    · have G38 := fun W p1 p2 p3 p4 (h1 : NumV W 10 a p1) (h2 : NumV W 10 b p2) (h3 : NumV W 10 u p3) (h4 : NumV W 10 v p4) => refOverV ⟨h1, h2, h3, h4⟩ (Nat.mul_ne_zero k3 hu) (by omega) (by omega) (by omega) (by omega)
      exact fracs_ok_low_ok (DM := 0) (NM := 0) (M1 := ⟨#[]⟩) (M2 := ⟨#[]⟩) F25a F25b F26 F27a F27b P X (fun W => ML W hlt) (fun W => VO W hu) O G30 G32 G38 G34 hz TP TQ TO TZ hu
  · have hle : u * b ≤ a * v := by omega
    have hz : ¬ cmp3 ((a * v : Nat) : Int) ((u * b : Nat) : Int) < 0 := by unfold cmp3; split <;> (try split) <;> omega
    have G36 := fun W p1 p2 p3 p4 (h1 : NumV W 10 a p1) (h2 : NumV W 10 b p2) (h3 : NumV W 10 u p3) (h4 : NumV W 10 v p4) => refMinusV ⟨h1, h2, h3, h4⟩ hle hbv (by omega) (by omega) (by omega) (by omega)
    by_cases hu : u = 0
    · exact fracs_ok_ok_zero (NO := 0) (DO := 0) (O1 := ⟨#[]⟩) (O2 := ⟨#[]⟩) F25a F25b F26 F27a F27b P X (fun W => MO W hle) (fun W => VZ W hu) O G30 G32 G36 G34 hz TP TQ TM TZ hu
    · have G38 := fun W p1 p2 p3 p4 (h1 : NumV W 10 a p1) (h2 : NumV W 10 b p2) (h3 : NumV W 10 u p3) (h4 : NumV W 10 v p4) => refOverV ⟨h1, h2, h3, h4⟩ (Nat.mul_ne_zero k3 hu) (by omega) (by omega) (by omega) (by omega)
      exact fracs_ok_ok_ok F25a F25b F26 F27a F27b P X (fun W => MO W hle) (fun W => VO W hu) O G30 G32 G36 G38 G34 hz TP TQ TM TO hu
theorem natFracs_bad {n1 d1 n2 d2 : ByteArray} {w : World} (h : wrF2 n1 d1 n2 d2 ≠ 0) (s1 : n1.size ≤ 4611686018427387904) (s2 : d1.size ≤ 4611686018427387904) (s3 : n2.size ≤ 4611686018427387904) (s4 : d2.size ≤ 4611686018427387904) :
    Calls Tryd.prog 5 #[.agg #[.string n1, .string d1], .agg #[.string n2, .string d2]] w fun e w' => e = .returned (.bool true) ∧ Below w.heap.size w w' := by
  have P := fun W => plusFr_bad (w := W) h s1 s2 s3 s4
  have X := fun W => timesFr_bad (w := W) h s1 s2 s3 s4
  have M := fun W => minusFr_bad (w := W) h s1 s2 s3 s4
  have V := fun W => overFr_bad (w := W) h s1 s2 s3 s4
  have O := fun W => orderFr_bad (w := W) h s1 s2 s3 s4
  have h0 : ((wrF2 n1 d1 n2 d2 : Int) == 0) = false := beq_eq_false_iff_ne.2 (by omega)
  have h1 : ((wrF2 n1 d1 n2 d2 : Int) != 0) = true := bne_iff_ne.2 (by omega)
  have TB : ∀ W p1 p2, Calls Tryd.prog 29 #[.agg #[.string ⟨#[]⟩, .string ⟨#[]⟩], .int .i64 (wrF2 n1 d1 n2 d2 : Int), .int .i64 (wrF2 n1 d1 n2 d2 : Int), .agg #[p1, p2]] W fun e w' => e = .returned (.bool true) ∧ Below W.heap.size W w' := fun W p1 p2 => told_bad _ h1
  have F26 : ∀ W, Calls Tryd.prog 26 #[.int .i64 1] W fun e w' => (∃ u1 u2, e = .returned (.agg #[u1, u2]) ∧ NumV w' 10 1 u1 ∧ NumV w' 10 1 u2) ∧ Below W.heap.size W w' := fun W => refWhole_any W 1 (by omega)
  have l1 := len_one10
  have G30 := fun W p1 p2 p3 p4 (h1 : NumV W 10 1 p1) (h2 : NumV W 10 1 p2) (h3 : NumV W 10 1 p3) (h4 : NumV W 10 1 p4) => refPlusV ⟨h1, h2, h3, h4⟩ (by omega) (by omega) (by omega) (by omega) (by omega)
  have G32 := fun W p1 p2 p3 p4 (h1 : NumV W 10 1 p1) (h2 : NumV W 10 1 p2) (h3 : NumV W 10 1 p3) (h4 : NumV W 10 1 p4) => refTimesV ⟨h1, h2, h3, h4⟩ (by omega) (by omega) (by omega) (by omega) (by omega)
  have G36 := fun W p1 p2 p3 p4 (h1 : NumV W 10 1 p1) (h2 : NumV W 10 1 p2) (h3 : NumV W 10 1 p3) (h4 : NumV W 10 1 p4) => refMinusV ⟨h1, h2, h3, h4⟩ (by omega) (by omega) (by omega) (by omega) (by omega) (by omega)
  have G38 := fun W p1 p2 p3 p4 (h1 : NumV W 10 1 p1) (h2 : NumV W 10 1 p2) (h3 : NumV W 10 1 p3) (h4 : NumV W 10 1 p4) => refOverV ⟨h1, h2, h3, h4⟩ (by omega) (by omega) (by omega) (by omega) (by omega)
  have G34 : ∀ W p1 p2 p3 p4, NumV W 10 1 p1 → NumV W 10 1 p2 → NumV W 10 1 p3 → NumV W 10 1 p4 → Calls Tryd.prog 34 #[.agg #[p1, p2], .agg #[p3, p4]] W fun e w' => e = .returned (.int .i64 0) ∧ Below W.heap.size W w' := fun W p1 p2 p3 p4 h1 h2 h3 h4 => by
    have := refOrderV ⟨h1, h2, h3, h4⟩ (by omega) (by omega) (by omega) (by omega)
    rw [cmp3_eq rfl] at this
    exact this
  by_cases e1 : wrF n1 d1 = 0
  · have ex : wrF2 n1 d1 n2 d2 = wrF n2 d2 := by unfold wrF2; rw [if_pos e1]
    have F25a : ∀ W, Calls Tryd.prog 25 #[.string n1, .string d1] W fun e w' => e = .returned (.int .i64 0) ∧ Below W.heap.size W w' := fun W => by
      have := wrongFrac_any n1 d1 W s1 s2; rw [e1] at this; exact this
    have F25b : ∀ W, Calls Tryd.prog 25 #[.string n2, .string d2] W fun e w' => e = .returned (.int .i64 (wrF2 n1 d1 n2 d2 : Int)) ∧ Below W.heap.size W w' := fun W => by
      rw [ex]; exact wrongFrac_any n2 d2 W s3 s4
    exact fracs_bad2 (P1 := ⟨#[]⟩) (P2 := ⟨#[]⟩) (Q1 := ⟨#[]⟩) (Q2 := ⟨#[]⟩) (M1 := ⟨#[]⟩) (M2 := ⟨#[]⟩) (O1 := ⟨#[]⟩) (O2 := ⟨#[]⟩) _ h0 h1 F25a F25b F26 P X M V O G30 G32 G36 G38 G34 TB rfl rfl rfl rfl
  · have ex : wrF2 n1 d1 n2 d2 = wrF n1 d1 := by unfold wrF2; rw [if_neg e1]
    have F25a : ∀ W, Calls Tryd.prog 25 #[.string n1, .string d1] W fun e w' => e = .returned (.int .i64 (wrF2 n1 d1 n2 d2 : Int)) ∧ Below W.heap.size W w' := fun W => by
      rw [ex]; exact wrongFrac_any n1 d1 W s1 s2
    exact fracs_bad1 (P1 := ⟨#[]⟩) (P2 := ⟨#[]⟩) (Q1 := ⟨#[]⟩) (Q2 := ⟨#[]⟩) (M1 := ⟨#[]⟩) (M2 := ⟨#[]⟩) (O1 := ⟨#[]⟩) (O2 := ⟨#[]⟩) _ h0 h1 F25a F26 P X M V O G30 G32 G36 G38 G34 TB rfl rfl rfl rfl
theorem natFracs_walk (n1 d1 n2 d2 : ByteArray) (w : World) (s1 : n1.size ≤ 4611686018427387904) (s2 : d1.size ≤ 4611686018427387904) (s3 : n2.size ≤ 4611686018427387904) (s4 : d2.size ≤ 4611686018427387904) :
    Calls Tryd.prog 5 #[.agg #[.string n1, .string d1], .agg #[.string n2, .string d2]] w fun e w' => e = .returned (.bool true) ∧ Below w.heap.size w w' := by
  by_cases h : wrF2 n1 d1 n2 d2 = 0
  · obtain ⟨h1, h2⟩ := wrF2_zero h
    exact natFracs_good h1 h2
  · exact natFracs_bad h s1 s2 s3 s4
end Go.Proofs.YtnahindcgedbaaaDoor
