/- The walks of tenTo, Show, Floor. -/
import Derived.Test.YtnahindcgedbaaaDoorReadFrac
import Derived.Test.YtnahindcgedbaaaDoorRefShow
import Derived.Test.YtnahindcgedbaaaDoorRepeat
set_option linter.unusedSimpArgs false
set_option linter.unusedVariables false
namespace Go.Proofs.YtnahindcgedbaaaDoor
open Go.RowKit Go.Deep Go.PlainAid

theorem repeat_zeros (k : Nat) (hk : k ≤ 1000) (w : World) :
    Calls Tryd.prog 87 #[.string ⟨#[48]⟩, .int .i64 (k : Int)] w fun e w' => e = .returned (.string ⟨(List.replicate k 48).toArray⟩) ∧ Below w.heap.size w w' := by
  have h := rpRepeat ⟨#[48]⟩ k w (by omega) (by show 1 * k ≤ _; omega)
  have e : Lib.repeatL (⟨#[48]⟩ : ByteArray).data.toList k = List.replicate k 48 := by
    have := Lib.repeatL_replicate 48 1 k
    rw [Nat.mul_one] at this
    exact this
  rw [e] at h
  exact h
theorem bv_zeros (k : Nat) : bv (List.replicate k 48) = 0 := by
  induction k with
  | zero => rfl
  | succ k ih => rw [List.replicate_succ, bv_cons, ih]; simp
set_option maxRecDepth 100000 in
set_option maxHeartbeats 1000000 in
theorem tenTo_any (p : Nat) (hp : p ≤ 100) (w : World) :
    Calls Tryd.prog 86 #[.int .i64 (p : Int)] w fun e w' => (∃ v, e = .returned v ∧ NumV w' 1000000000 (10 ^ p) v) ∧ Below w.heap.size w w' := by
  have C1 : Hid (∀ W, Calls Tryd.prog 87 #[.string ⟨#[48]⟩, .int .i64 (p : Int)] W fun e w' => e = .returned (.string ⟨(List.replicate p 48).toArray⟩) ∧ Below W.heap.size W w') := fun W => repeat_zeros p (by omega) W
  have C2 : Hid (∀ W, Calls Tryd.prog 89 #[.string ((⟨#[49]⟩ : ByteArray) ++ ⟨(List.replicate p 48).toArray⟩)] W fun e w' => (∃ v, e = .returned v ∧ NumV w' 1000000000 (10 ^ p) v) ∧ Below W.heap.size W w') := fun W => by
    rw [ba_cons]
    have h := numberOf_any ⟨(49 :: List.replicate p 48).toArray⟩ W (by simp [allDig]; exact ⟨rfl, Or.inr rfl⟩) (by simp [ByteArray.size]; omega)
    have e : bv (49 :: List.replicate p 48) = 10 ^ p := by rw [bv_cons, bv_zeros]; simp
    rw [e] at h
    exact h
  have hl : (List.replicate p (48 : UInt8)).length ≤ 100 := by simp; omega
  generalize List.replicate p (48 : UInt8) = Z at *
  have ho : ¬ 9223372036854775807 < 1 + Z.length := by omega
  generalize 10 ^ p = P at *
  go_enter Tryd.func86, Tryd.ntmps86
  go_wp2_with fail
  refine (C1.out w).mono ?_
  rintro e U1 ⟨rfl, hb⟩
  have B : Hid (Below w.heap.size w U1) := hb
  clear hb
  go_wp2_with fail
  refine (C2.out U1).mono ?_
  rintro e U2 ⟨⟨v, rfl, hv⟩, hb⟩
  replace B := aB B hb
  have Nv : Hid (NumV U2 1000000000 P v) := hv
  clear hv hb
  go_wp2_with fail
  go_ret
  exact ⟨⟨_, rfl, Nv.out⟩, B.out⟩
set_option maxRecDepth 100000 in
set_option maxHeartbeats 2000000 in
theorem show_wrong {n d : ByteArray} {w : World} {z : Int} (x : Nat) (hx : ((x : Int) != 0) = true) (R : Hid (∀ W, Calls Tryd.prog 71 #[.agg #[.string n, .string d]] W fun e w' => e = .returned (.tuple #[.agg #[.slice none 0 0, .slice none 0 0], .int .i64 (x : Int)]) ∧ Below W.heap.size W w')) :
    Calls Tryd.prog 42 #[.agg #[.string n, .string d], .int .i64 z] w fun e w' => e = .returned (.tuple #[.string ⟨#[]⟩, .int .i64 (x : Int)]) ∧ Below w.heap.size w w' := by
  go_enter Tryd.func42, Tryd.ntmps42
  go_wp2_with fail
  obtain ⟨U1, hU1⟩ : ∃ X, X = (w.alloc (.cells #[(.string n), (.string d)] 41)) := ⟨_, rfl⟩
  have Jx : Hid (IHolds U1 (w.heap.size) 41 [(.string n), (.string d)]) := by
    have q := IHolds.new w 41 [(.string n), (.string d)]
    show IHolds _ _ _ _
    rw [hU1]
    exact q
  have B : Hid (Below w.heap.size w U1) := by
    show Below _ _ _
    rw [hU1]
    exact ((Below.refl _ w).alloc (Nat.le_refl _) _)
  rw [← hU1]
  clear hU1
  refine (R.out U1).mono ?_
  rintro e U2 ⟨rfl, hb⟩
  replace B := aB B hb
  replace Jx := aJ Jx hb
  clear hb
  have hb := nB U2 (.cells #[(.slice none 0 0), (.slice none 0 0)] 88)
  replace B := aB B hb
  replace Jx := aJ Jx hb
  clear hb
  go_wp2_with fail
  go_ret2
  exact ⟨rfl, B.out⟩
set_option maxRecDepth 100000 in
set_option maxHeartbeats 2000000 in
theorem show_low {n d : ByteArray} {w : World} {z : Int} (hz : z < 0) {N D : Nat} (R : Hid (∀ W, Calls Tryd.prog 71 #[.agg #[.string n, .string d]] W fun e w' => (∃ u1 u2, e = .returned (.tuple #[.agg #[u1, u2], .int .i64 0]) ∧ NumV w' 1000000000 N u1 ∧ NumV w' 1000000000 D u2) ∧ Below W.heap.size W w')) :
    Calls Tryd.prog 42 #[.agg #[.string n, .string d], .int .i64 z] w fun e w' => e = .returned (.tuple #[.string ⟨#[]⟩, .int .i64 4]) ∧ Below w.heap.size w w' := by
  go_enter Tryd.func42, Tryd.ntmps42
  go_wp2_with fail
  obtain ⟨U1, hU1⟩ : ∃ X, X = (w.alloc (.cells #[(.string n), (.string d)] 41)) := ⟨_, rfl⟩
  have Jx : Hid (IHolds U1 (w.heap.size) 41 [(.string n), (.string d)]) := by
    have q := IHolds.new w 41 [(.string n), (.string d)]
    show IHolds _ _ _ _
    rw [hU1]
    exact q
  have B : Hid (Below w.heap.size w U1) := by
    show Below _ _ _
    rw [hU1]
    exact ((Below.refl _ w).alloc (Nat.le_refl _) _)
  rw [← hU1]
  clear hU1
  refine (R.out U1).mono ?_
  rintro e U2 ⟨⟨p1, p2, rfl, hv, hv'⟩, hb⟩
  have Np1 : Hid (NumV U2 1000000000 N p1) := hv
  have Np2 : Hid (NumV U2 1000000000 D p2) := hv'
  clear hv hv'
  replace B := aB B hb
  replace Jx := aJ Jx hb
  clear hb
  obtain ⟨p1_a, p1_l, p1_c, rfl⟩ := sN Np1
  obtain ⟨p2_a, p2_l, p2_c, rfl⟩ := sN Np2
  have hb := nB U2 (.cells #[(.slice p1_a p1_l p1_c), (.slice p2_a p2_l p2_c)] 88)
  have Jf : Hid (IHolds (U2.alloc (.cells #[(.slice p1_a p1_l p1_c), (.slice p2_a p2_l p2_c)] 88)) U2.heap.size 88 [(.slice p1_a p1_l p1_c), (.slice p2_a p2_l p2_c)]) := IHolds.new _ _ _
  have ne_x_f := nJ Jx
  have ge_f : Hid (w.heap.size ≤ U2.heap.size) := B.out.size
  replace B := aB B hb
  replace Jx := aJ Jx hb
  replace Np1 := aN Np1 hb
  replace Np2 := aN Np2 hb
  clear hb
  go_wp2_with fail
  generalize (U2.alloc (.cells #[(.slice p1_a p1_l p1_c), (.slice p2_a p2_l p2_c)] 88)) = U3 at *
  generalize U2.heap.size = b4 at *
  go_ret2
  exact ⟨rfl, B.out⟩
set_option maxRecDepth 100000 in
set_option maxHeartbeats 2000000 in
theorem show_high {n d : ByteArray} {w : World} {z : Int} (hz : ¬ z < 0) (hz2 : 100 < z) {N D : Nat} (R : Hid (∀ W, Calls Tryd.prog 71 #[.agg #[.string n, .string d]] W fun e w' => (∃ u1 u2, e = .returned (.tuple #[.agg #[u1, u2], .int .i64 0]) ∧ NumV w' 1000000000 N u1 ∧ NumV w' 1000000000 D u2) ∧ Below W.heap.size W w')) :
    Calls Tryd.prog 42 #[.agg #[.string n, .string d], .int .i64 z] w fun e w' => e = .returned (.tuple #[.string ⟨#[]⟩, .int .i64 4]) ∧ Below w.heap.size w w' := by
  go_enter Tryd.func42, Tryd.ntmps42
  go_wp2_with fail
  obtain ⟨U1, hU1⟩ : ∃ X, X = (w.alloc (.cells #[(.string n), (.string d)] 41)) := ⟨_, rfl⟩
  have Jx : Hid (IHolds U1 (w.heap.size) 41 [(.string n), (.string d)]) := by
    have q := IHolds.new w 41 [(.string n), (.string d)]
    show IHolds _ _ _ _
    rw [hU1]
    exact q
  have B : Hid (Below w.heap.size w U1) := by
    show Below _ _ _
    rw [hU1]
    exact ((Below.refl _ w).alloc (Nat.le_refl _) _)
  rw [← hU1]
  clear hU1
  refine (R.out U1).mono ?_
  rintro e U2 ⟨⟨p1, p2, rfl, hv, hv'⟩, hb⟩
  have Np1 : Hid (NumV U2 1000000000 N p1) := hv
  have Np2 : Hid (NumV U2 1000000000 D p2) := hv'
  clear hv hv'
  replace B := aB B hb
  replace Jx := aJ Jx hb
  clear hb
  obtain ⟨p1_a, p1_l, p1_c, rfl⟩ := sN Np1
  obtain ⟨p2_a, p2_l, p2_c, rfl⟩ := sN Np2
  have hb := nB U2 (.cells #[(.slice p1_a p1_l p1_c), (.slice p2_a p2_l p2_c)] 88)
  have Jf : Hid (IHolds (U2.alloc (.cells #[(.slice p1_a p1_l p1_c), (.slice p2_a p2_l p2_c)] 88)) U2.heap.size 88 [(.slice p1_a p1_l p1_c), (.slice p2_a p2_l p2_c)]) := IHolds.new _ _ _
  have ne_x_f := nJ Jx
  have ge_f : Hid (w.heap.size ≤ U2.heap.size) := B.out.size
  replace B := aB B hb
  replace Jx := aJ Jx hb
  replace Np1 := aN Np1 hb
  replace Np2 := aN Np2 hb
  clear hb
  go_wp2_with fail
  generalize (U2.alloc (.cells #[(.slice p1_a p1_l p1_c), (.slice p2_a p2_l p2_c)] 88)) = U3 at *
  generalize U2.heap.size = b4 at *
  go_ret2
  exact ⟨rfl, B.out⟩
set_option maxRecDepth 100000 in
set_option maxHeartbeats 2000000 in
theorem show_zero {n d : ByteArray} {w : World} {z : Int} (hz : z = 0) {N D : Nat} (R : Hid (∀ W, Calls Tryd.prog 71 #[.agg #[.string n, .string d]] W fun e w' => (∃ u1 u2, e = .returned (.tuple #[.agg #[u1, u2], .int .i64 0]) ∧ NumV w' 1000000000 N u1 ∧ NumV w' 1000000000 D u2) ∧ Below W.heap.size W w')) {Q Rr : Nat} {TQ : ByteArray} (C1 : Hid (∀ W v v', NumV W 1000000000 N v → NumV W 1000000000 D v' → Calls Tryd.prog 67 #[v, v'] W fun e w' => (∃ u1 u2, e = .returned (.tuple #[u1, u2]) ∧ NumV w' 1000000000 Q u1 ∧ NumV w' 1000000000 Rr u2) ∧ Below W.heap.size W w')) (C2 : Hid (∀ W v, NumV W 1000000000 Q v → Calls Tryd.prog 53 #[v] W fun e w' => e = .returned (.string TQ) ∧ Below W.heap.size W w')) :
    Calls Tryd.prog 42 #[.agg #[.string n, .string d], .int .i64 z] w fun e w' => e = .returned (.tuple #[.string TQ, .int .i64 0]) ∧ Below w.heap.size w w' := by
  subst hz
  go_enter Tryd.func42, Tryd.ntmps42
  go_wp2_with fail
  obtain ⟨U1, hU1⟩ : ∃ X, X = (w.alloc (.cells #[(.string n), (.string d)] 41)) := ⟨_, rfl⟩
  have Jx : Hid (IHolds U1 (w.heap.size) 41 [(.string n), (.string d)]) := by
    have q := IHolds.new w 41 [(.string n), (.string d)]
    show IHolds _ _ _ _
    rw [hU1]
    exact q
  have B : Hid (Below w.heap.size w U1) := by
    show Below _ _ _
    rw [hU1]
    exact ((Below.refl _ w).alloc (Nat.le_refl _) _)
  rw [← hU1]
  clear hU1
  refine (R.out U1).mono ?_
  rintro e U2 ⟨⟨p1, p2, rfl, hv, hv'⟩, hb⟩
  have Np1 : Hid (NumV U2 1000000000 N p1) := hv
  have Np2 : Hid (NumV U2 1000000000 D p2) := hv'
  clear hv hv'
  replace B := aB B hb
  replace Jx := aJ Jx hb
  clear hb
  obtain ⟨p1_a, p1_l, p1_c, rfl⟩ := sN Np1
  obtain ⟨p2_a, p2_l, p2_c, rfl⟩ := sN Np2
  have hb := nB U2 (.cells #[(.slice p1_a p1_l p1_c), (.slice p2_a p2_l p2_c)] 88)
  have Jf : Hid (IHolds (U2.alloc (.cells #[(.slice p1_a p1_l p1_c), (.slice p2_a p2_l p2_c)] 88)) U2.heap.size 88 [(.slice p1_a p1_l p1_c), (.slice p2_a p2_l p2_c)]) := IHolds.new _ _ _
  have ne_x_f := nJ Jx
  have ge_f : Hid (w.heap.size ≤ U2.heap.size) := B.out.size
  replace B := aB B hb
  replace Jx := aJ Jx hb
  replace Np1 := aN Np1 hb
  replace Np2 := aN Np2 hb
  clear hb
  go_wp2_with fail
  generalize (U2.alloc (.cells #[(.slice p1_a p1_l p1_c), (.slice p2_a p2_l p2_c)] 88)) = U3 at *
  generalize U2.heap.size = b4 at *
  refine (C1.out U3 _ _ Np1.out Np2.out).mono ?_
  rintro e U5 ⟨⟨u1, u2, rfl, hv, hv'⟩, hb⟩
  have Nu1 : Hid (NumV U5 1000000000 (Q) u1) := hv
  have Nu2 : Hid (NumV U5 1000000000 (Rr) u2) := hv'
  clear hv hv'
  replace B := aB B hb
  replace Jx := aJ Jx hb
  replace Jf := aJ Jf hb
  replace Np1 := aN Np1 hb
  replace Np2 := aN Np2 hb
  clear hb
  go_wp2_with fail
  refine (C2.out U5 _ Nu1.out).mono ?_
  rintro e U6 ⟨rfl, hb⟩
  replace B := aB B hb
  replace Jx := aJ Jx hb
  replace Jf := aJ Jf hb
  replace Np1 := aN Np1 hb
  replace Np2 := aN Np2 hb
  replace Nu1 := aN Nu1 hb
  replace Nu2 := aN Nu2 hb
  clear hb
  go_wp2_with fail
  go_ret2
  exact ⟨rfl, B.out⟩
set_option maxRecDepth 100000 in
set_option maxHeartbeats 2000000 in
theorem show_some {n d : ByteArray} {w : World} {z : Int} (hz : ¬ z < 0) (hz2 : ¬ 100 < z) (hz3 : (z == 0) = false) {N D : Nat} (R : Hid (∀ W, Calls Tryd.prog 71 #[.agg #[.string n, .string d]] W fun e w' => (∃ u1 u2, e = .returned (.tuple #[.agg #[u1, u2], .int .i64 0]) ∧ NumV w' 1000000000 N u1 ∧ NumV w' 1000000000 D u2) ∧ Below W.heap.size W w')) {Q Rr P M Q2 R2 : Nat} {A E Z : List UInt8} (C1 : Hid (∀ W v v', NumV W 1000000000 N v → NumV W 1000000000 D v' → Calls Tryd.prog 67 #[v, v'] W fun e w' => (∃ u1 u2, e = .returned (.tuple #[u1, u2]) ∧ NumV w' 1000000000 Q u1 ∧ NumV w' 1000000000 Rr u2) ∧ Below W.heap.size W w')) (C3 : Hid (∀ W, Calls Tryd.prog 86 #[.int .i64 z] W fun e w' => (∃ v, e = .returned v ∧ NumV w' 1000000000 P v) ∧ Below W.heap.size W w')) (C4 : Hid (∀ W v v', NumV W 1000000000 Rr v → NumV W 1000000000 P v' → Calls Tryd.prog 56 #[v, v'] W fun e w' => (∃ v, e = .returned v ∧ NumV w' 1000000000 M v) ∧ Below W.heap.size W w')) (C5 : Hid (∀ W v v', NumV W 1000000000 M v → NumV W 1000000000 D v' → Calls Tryd.prog 67 #[v, v'] W fun e w' => (∃ u1 u2, e = .returned (.tuple #[u1, u2]) ∧ NumV w' 1000000000 Q2 u1 ∧ NumV w' 1000000000 R2 u2) ∧ Below W.heap.size W w')) (C6 : Hid (∀ W v, NumV W 1000000000 Q2 v → Calls Tryd.prog 53 #[v] W fun e w' => e = .returned (.string ⟨E.toArray⟩) ∧ Below W.heap.size W w')) (C7 : Hid (∀ W v, NumV W 1000000000 Q v → Calls Tryd.prog 53 #[v] W fun e w' => e = .returned (.string ⟨A.toArray⟩) ∧ Below W.heap.size W w')) (C8 : Hid (∀ W, Calls Tryd.prog 87 #[.string ⟨#[48]⟩, .int .i64 (z - (E.length : Int))] W fun e w' => e = .returned (.string ⟨Z.toArray⟩) ∧ Below W.heap.size W w')) (hE : E.length ≤ 1000) (hZ : Z.length ≤ 1000) (hA : A.length ≤ 10000) (o1 : ¬ 9223372036854775807 < A.length + 1) (o2 : ¬ 9223372036854775807 < A.length + 1 + Z.length) (o3 : ¬ 9223372036854775807 < A.length + 1 + Z.length + E.length) :
    Calls Tryd.prog 42 #[.agg #[.string n, .string d], .int .i64 z] w fun e w' => e = .returned (.tuple #[.string ((⟨A.toArray⟩ : ByteArray) ++ (⟨#[46]⟩ : ByteArray) ++ (⟨Z.toArray⟩ : ByteArray) ++ (⟨E.toArray⟩ : ByteArray)), .int .i64 0]) ∧ Below w.heap.size w w' := by
  go_enter Tryd.func42, Tryd.ntmps42
  go_wp2_with fail
  obtain ⟨U1, hU1⟩ : ∃ X, X = (w.alloc (.cells #[(.string n), (.string d)] 41)) := ⟨_, rfl⟩
  have Jx : Hid (IHolds U1 (w.heap.size) 41 [(.string n), (.string d)]) := by
    have q := IHolds.new w 41 [(.string n), (.string d)]
    show IHolds _ _ _ _
    rw [hU1]
    exact q
  have B : Hid (Below w.heap.size w U1) := by
    show Below _ _ _
    rw [hU1]
    exact ((Below.refl _ w).alloc (Nat.le_refl _) _)
  rw [← hU1]
  clear hU1
  refine (R.out U1).mono ?_
  rintro e U2 ⟨⟨p1, p2, rfl, hv, hv'⟩, hb⟩
  have Np1 : Hid (NumV U2 1000000000 N p1) := hv
  have Np2 : Hid (NumV U2 1000000000 D p2) := hv'
  clear hv hv'
  replace B := aB B hb
  replace Jx := aJ Jx hb
  clear hb
  obtain ⟨p1_a, p1_l, p1_c, rfl⟩ := sN Np1
  obtain ⟨p2_a, p2_l, p2_c, rfl⟩ := sN Np2
  have hb := nB U2 (.cells #[(.slice p1_a p1_l p1_c), (.slice p2_a p2_l p2_c)] 88)
  have Jf : Hid (IHolds (U2.alloc (.cells #[(.slice p1_a p1_l p1_c), (.slice p2_a p2_l p2_c)] 88)) U2.heap.size 88 [(.slice p1_a p1_l p1_c), (.slice p2_a p2_l p2_c)]) := IHolds.new _ _ _
  have ne_x_f := nJ Jx
  have ge_f : Hid (w.heap.size ≤ U2.heap.size) := B.out.size
  replace B := aB B hb
  replace Jx := aJ Jx hb
  replace Np1 := aN Np1 hb
  replace Np2 := aN Np2 hb
  clear hb
  go_wp2_with fail
  generalize (U2.alloc (.cells #[(.slice p1_a p1_l p1_c), (.slice p2_a p2_l p2_c)] 88)) = U3 at *
  generalize U2.heap.size = b4 at *
  refine (C1.out U3 _ _ Np1.out Np2.out).mono ?_
  rintro e U5 ⟨⟨u1, u2, rfl, hv, hv'⟩, hb⟩
  have Nu1 : Hid (NumV U5 1000000000 (Q) u1) := hv
  have Nu2 : Hid (NumV U5 1000000000 (Rr) u2) := hv'
  clear hv hv'
  replace B := aB B hb
  replace Jx := aJ Jx hb
  replace Jf := aJ Jf hb
  replace Np1 := aN Np1 hb
  replace Np2 := aN Np2 hb
  clear hb
  go_wp2_with fail
  have hb := dB U5
  replace B := aB B hb
  replace Jx := aJ Jx hb
  replace Jf := aJ Jf hb
  replace Np1 := aN Np1 hb
  replace Np2 := aN Np2 hb
  replace Nu1 := aN Nu1 hb
  replace Nu2 := aN Nu2 hb
  clear hb
  refine wp_region_held_drew (S := fun W => IHolds W (b4) 88 [(.slice p1_a p1_l p1_c), (.slice p2_a p2_l p2_c)]) (by kernel_rfl) Jf.out (fun hHeld1 => ?_)
  generalize U5.drew = U6 at *
  refine tk (i := 0) (v := u2) rfl (by kernel_rfl) (fun _ _ _ h => h) rfl ?_ hHeld1 ?_
  · intro W hS; go_simp
  simp only [Act.put, y1, y2, y3, y4, y5, y6, y7]
  refine tk (i := 1) (v := (.int .i64 z)) rfl (by kernel_rfl) (fun _ _ _ h => h) rfl ?_ hHeld1 ?_
  · intro W hS; go_simp
  simp only [Act.put, y1, y2, y3, y4, y5, y6, y7]
  refine tk (i := 4) (v := .pointer (some ⟨b4, 1, none⟩)) rfl (by kernel_rfl) (fun _ _ _ h => h) rfl ?_ hHeld1 ?_
  · intro W hS; go_simp
  simp only [Act.put, y1, y2, y3, y4, y5, y6, y7]
  refine tk (i := 5) (v := (.slice p2_a p2_l p2_c)) rfl (by kernel_rfl) (fun _ _ _ h => h) rfl ?_ hHeld1 ?_
  · intro W hS; obtain ⟨zf_0, zf_1⟩ := c2 hS; go_simp
  simp only [Act.put, y1, y2, y3, y4, y5, y6, y7]
  refine wpAnyH_ready (rs := [2]) (by kernel_rfl) (by simp) ?_
  refine AllReadyH.cons rfl (fun K hK => ?_) AllReadyH.nil
  clear hHeld1
  go_simp
  refine (C3.out U6).mono ?_
  rintro e U7 ⟨⟨yy1, rfl, hv⟩, hb⟩
  have Nyy1 : Hid (NumV U7 1000000000 (P) yy1) := hv
  clear hv
  replace B := aB B hb
  replace Jx := aJ Jx hb
  replace Jf := aJ Jf hb
  replace Np1 := aN Np1 hb
  replace Np2 := aN Np2 hb
  replace Nu1 := aN Nu1 hb
  replace Nu2 := aN Nu2 hb
  clear hb
  go_wp2_with fail
  refine hK.out _ _ (Jf.out) (fun hHeld2 => ?_)
  clear hK K
  try simp only [Act.put, y1, y2, y3, y4, y5, y6, y7]
  refine wpAnyH_ready (rs := [3]) (by kernel_rfl) (by simp) ?_
  refine AllReadyH.cons rfl (fun K hK => ?_) AllReadyH.nil
  clear hHeld2
  go_simp
  refine (C4.out U7 _ _ Nu2.out Nyy1.out).mono ?_
  rintro e U8 ⟨⟨yy2, rfl, hv⟩, hb⟩
  have Nyy2 : Hid (NumV U8 1000000000 (M) yy2) := hv
  clear hv
  replace B := aB B hb
  replace Jx := aJ Jx hb
  replace Jf := aJ Jf hb
  replace Np1 := aN Np1 hb
  replace Np2 := aN Np2 hb
  replace Nu1 := aN Nu1 hb
  replace Nu2 := aN Nu2 hb
  replace Nyy1 := aN Nyy1 hb
  clear hb
  go_wp2_with fail
  refine hK.out _ _ (Jf.out) (fun hHeld3 => ?_)
  clear hK K
  try simp only [Act.put, y1, y2, y3, y4, y5, y6, y7]
  refine wpAnyH_ready (rs := [6]) (by kernel_rfl) (by simp) ?_
  refine AllReadyH.cons rfl (fun K hK => ?_) AllReadyH.nil
  clear hHeld3
  go_simp
  refine (C5.out U8 _ _ Nyy2.out Np2.out).mono ?_
  rintro e U9 ⟨⟨u3, u4, rfl, hv, hv'⟩, hb⟩
  have Nu3 : Hid (NumV U9 1000000000 (Q2) u3) := hv
  have Nu4 : Hid (NumV U9 1000000000 (R2) u4) := hv'
  clear hv hv'
  replace B := aB B hb
  replace Jx := aJ Jx hb
  replace Jf := aJ Jf hb
  replace Np1 := aN Np1 hb
  replace Np2 := aN Np2 hb
  replace Nu1 := aN Nu1 hb
  replace Nu2 := aN Nu2 hb
  replace Nyy1 := aN Nyy1 hb
  replace Nyy2 := aN Nyy2 hb
  clear hb
  go_wp2_with fail
  refine hK.out _ _ (Jf.out) (fun hHeld4 => ?_)
  clear hK K
  try simp only [Act.put, y1, y2, y3, y4, y5, y6, y7]
  refine tk (i := 7) (v := .tuple #[u3, u4]) rfl (by kernel_rfl) (fun _ _ _ h => h) rfl ?_ hHeld4 ?_
  · intro W hS; go_simp
  simp only [Act.put, y1, y2, y3, y4, y5, y6, y7]
  refine tk (i := 8) (v := u3) rfl (by kernel_rfl) (fun _ _ _ h => h) rfl ?_ hHeld4 ?_
  · intro W hS; go_simp
  simp only [Act.put, y1, y2, y3, y4, y5, y6, y7]
  refine tk (i := 9) (v := u4) rfl (by kernel_rfl) (fun _ _ _ h => h) rfl ?_ hHeld4 ?_
  · intro W hS; go_simp
  simp only [Act.put, y1, y2, y3, y4, y5, y6, y7]
  refine tk (i := 10) (v := u3) rfl (by kernel_rfl) (fun _ _ _ h => h) rfl ?_ hHeld4 ?_
  · intro W hS; go_simp
  simp only [Act.put, y1, y2, y3, y4, y5, y6, y7]
  refine tk (i := 11) (v := u4) rfl (by kernel_rfl) (fun _ _ _ h => h) rfl ?_ hHeld4 ?_
  · intro W hS; go_simp
  simp only [Act.put, y1, y2, y3, y4, y5, y6, y7]
  refine wpAnyH_done (by kernel_rfl) ?_ _
  clear hHeld4
  go_wp2_with fail
  refine (C6.out U9 _ Nu3.out).mono ?_
  rintro e U10 ⟨rfl, hb⟩
  replace B := aB B hb
  replace Jx := aJ Jx hb
  replace Jf := aJ Jf hb
  replace Np1 := aN Np1 hb
  replace Np2 := aN Np2 hb
  replace Nu1 := aN Nu1 hb
  replace Nu2 := aN Nu2 hb
  replace Nyy1 := aN Nyy1 hb
  replace Nyy2 := aN Nyy2 hb
  replace Nu3 := aN Nu3 hb
  replace Nu4 := aN Nu4 hb
  clear hb
  go_wp2_with fail
  refine (C7.out U10 _ Nu1.out).mono ?_
  rintro e U11 ⟨rfl, hb⟩
  replace B := aB B hb
  replace Jx := aJ Jx hb
  replace Jf := aJ Jf hb
  replace Np1 := aN Np1 hb
  replace Np2 := aN Np2 hb
  replace Nu1 := aN Nu1 hb
  replace Nu2 := aN Nu2 hb
  replace Nyy1 := aN Nyy1 hb
  replace Nyy2 := aN Nyy2 hb
  replace Nu3 := aN Nu3 hb
  replace Nu4 := aN Nu4 hb
  clear hb
  go_wp2_with fail
  refine (C8.out U11).mono ?_
  rintro e U12 ⟨rfl, hb⟩
  replace B := aB B hb
  replace Jx := aJ Jx hb
  replace Jf := aJ Jf hb
  replace Np1 := aN Np1 hb
  replace Np2 := aN Np2 hb
  replace Nu1 := aN Nu1 hb
  replace Nu2 := aN Nu2 hb
  replace Nyy1 := aN Nyy1 hb
  replace Nyy2 := aN Nyy2 hb
  replace Nu3 := aN Nu3 hb
  replace Nu4 := aN Nu4 hb
  clear hb
  go_wp2_with fail
  go_ret2
  exact ⟨rfl, B.out⟩
set_option maxRecDepth 100000 in
set_option maxHeartbeats 1000000 in
theorem floor_call {n d : ByteArray} {w : World} {t : ByteArray} {c : Int} (H : Hid (∀ W, Calls Tryd.prog 42 #[.agg #[.string n, .string d], .int .i64 0] W fun e w' => e = .returned (.tuple #[.string t, .int .i64 c]) ∧ Below W.heap.size W w')) :
    Calls Tryd.prog 41 #[.agg #[.string n, .string d]] w fun e w' => e = .returned (.tuple #[.string t, .int .i64 c]) ∧ Below w.heap.size w w' := by
  go_enter Tryd.func41, Tryd.ntmps41
  go_wp2_with fail
  obtain ⟨U1, hU1⟩ : ∃ X, X = (w.alloc (.cells #[(.string n), (.string d)] 41)) := ⟨_, rfl⟩
  have Jx : Hid (IHolds U1 (w.heap.size) 41 [(.string n), (.string d)]) := by
    have q := IHolds.new w 41 [(.string n), (.string d)]
    show IHolds _ _ _ _
    rw [hU1]
    exact q
  have B : Hid (Below w.heap.size w U1) := by
    show Below _ _ _
    rw [hU1]
    exact ((Below.refl _ w).alloc (Nat.le_refl _) _)
  rw [← hU1]
  clear hU1
  refine (H.out U1).mono ?_
  rintro e U2 ⟨rfl, hb⟩
  replace B := aB B hb
  replace Jx := aJ Jx hb
  clear hb
  go_wp2_with fail
  go_ret2
  exact ⟨rfl, B.out⟩

theorem show_bad {n d : ByteArray} {w : World} {z : Int} (h : wrF n d ≠ 0) (hn : n.size ≤ 4611686018427387904) (hd : d.size ≤ 4611686018427387904) :
    Calls Tryd.prog 42 #[.agg #[.string n, .string d], .int .i64 z] w fun e w' => e = .returned (.tuple #[.string ⟨#[]⟩, .int .i64 (wrF n d : Int)]) ∧ Below w.heap.size w w' :=
  show_wrong _ (bne_iff_ne.2 (by omega)) (fun W => readFrac_bad n d W h hn hd)
theorem show_range {n d : ByteArray} {w : World} {z : Int} (h : wrF n d = 0) (hz : z < 0 ∨ 100 < z) :
    Calls Tryd.prog 42 #[.agg #[.string n, .string d], .int .i64 z] w fun e w' => e = .returned (.tuple #[.string ⟨#[]⟩, .int .i64 4]) ∧ Below w.heap.size w w' := by
  by_cases h0 : z < 0
  · exact show_low h0 (fun W => readFrac_good n d W h)
  · exact show_high h0 (by omega) (fun W => readFrac_good n d W h)
theorem show_ok {n d : ByteArray} {w : World} {p : Nat} (h : wrF n d = 0) (hp : p ≤ 100) :
    Calls Tryd.prog 42 #[.agg #[.string n, .string d], .int .i64 (p : Int)] w fun e w' => e = .returned (.tuple #[.string ⟨(showT p (bv n.data.toList) (bv d.data.toList)).toArray⟩, .int .i64 0]) ∧ Below w.heap.size w w' := by
  obtain ⟨k1, k2, k3, k4⟩ := wrF_zero h
  have l1 := dg_len_bv n k1
  have l2 := dg_len_bv d k2
  have m1 := dg_len_bv10 n k1
  have R := fun W => readFrac_good n d W h
  generalize bv n.data.toList = a at *
  generalize bv d.data.toList = b at *
  have hb : 0 < b := Nat.pos_of_ne_zero k3
  have lq : (dg 1000000000 (a / b)).length ≤ 4000 := Nat.le_trans (dg_len_mono bigBase (Nat.div_le_self _ _)) l1
  have lr : (dg 1000000000 (a % b)).length ≤ 4000 := Nat.le_trans (dg_len_mono bigBase (Nat.le_of_lt (Nat.mod_lt _ hb))) l2
  by_cases h0 : p = 0
  · subst h0
    unfold showT
    rw [if_pos rfl]
    exact show_zero rfl R (fun W v v' g1 g2 => overV g1 g2 k3 (by omega) (by omega)) (fun W v g => textV g (by omega))
  · obtain ⟨e, hlt⟩ := q_parts (N := a) (p := p) hb
    have lp : (dg 1000000000 (10 ^ p)).length ≤ 101 := dg_len_le bigBase 101 _ (Nat.lt_of_lt_of_le (Nat.pow_lt_pow_right (by omega) (show p < 101 by omega)) (Nat.pow_le_pow_left (by omega) _))
    have lm := dg_len_mul bigBase (a % b) (10 ^ p)
    have lE := txt_len_le (a % b * 10 ^ p / b) p (by omega) hlt
    have lA : (txt (a / b)).length ≤ 4001 := by
      rw [txt_length]
      split
      · omega
      · exact Nat.le_trans (dg_len_mono ten (Nat.div_le_self _ _)) (by omega)
    have lQ2 : (dg 1000000000 (a % b * 10 ^ p / b)).length ≤ 5000 := Nat.le_trans (dg_len_mono bigBase (Nat.div_le_self _ _)) (by omega)
    have hz3 : ((p : Int) == 0) = false := beq_eq_false_iff_ne.2 (by omega)
    have lZ : (List.replicate (p - (txt (a % b * 10 ^ p / b)).length) (48 : UInt8)).length ≤ 100 := by simp; omega
    have hw := show_some (w := w) (z := (p : Int)) (A := txt (a / b)) (E := txt (a % b * 10 ^ p / b)) (Z := List.replicate (p - (txt (a % b * 10 ^ p / b)).length) 48) (by omega) (by omega) hz3 R (fun W v v' g1 g2 => overV g1 g2 k3 (by omega) (by omega)) (fun W => tenTo_any p hp W)
      (fun W v v' g1 g2 => timesV g1 g2 (by omega) (by omega)) (fun W v v' g1 g2 => overV g1 g2 k3 (by omega) (by omega)) (fun W v g => textV g (by omega)) (fun W v g => textV g (by omega))
      (fun W => by
        have := repeat_zeros (p - (txt (a % b * 10 ^ p / b)).length) (by omega) W
        rw [show ((p - (txt (a % b * 10 ^ p / b)).length : Nat) : Int) = (p : Int) - ((txt (a % b * 10 ^ p / b)).length : Int) by omega] at this
        exact this) (by omega) (by omega) (by omega) (by omega) (by omega) (by omega)
    have es : (⟨(txt (a / b)).toArray⟩ : ByteArray) ++ ⟨#[46]⟩ ++ ⟨(List.replicate (p - (txt (a % b * 10 ^ p / b)).length) (48 : UInt8)).toArray⟩ ++ ⟨(txt (a % b * 10 ^ p / b)).toArray⟩ = ⟨(showT p a b).toArray⟩ := by
      have e1 : (⟨#[46]⟩ : ByteArray) = ⟨[46].toArray⟩ := rfl
      rw [e1, ba_append, ba_append, ba_append]
      unfold showT
      rw [if_neg h0]
      simp
    rw [es] at hw
    exact hw
theorem floor_ok {n d : ByteArray} {w : World} (h : wrF n d = 0) :
    Calls Tryd.prog 41 #[.agg #[.string n, .string d]] w fun e w' => e = .returned (.tuple #[.string ⟨(showT 0 (bv n.data.toList) (bv d.data.toList)).toArray⟩, .int .i64 0]) ∧ Below w.heap.size w w' :=
  floor_call (fun W => show_ok (p := 0) h (by omega))
theorem floor_bad {n d : ByteArray} {w : World} (h : wrF n d ≠ 0) (hn : n.size ≤ 4611686018427387904) (hd : d.size ≤ 4611686018427387904) :
    Calls Tryd.prog 41 #[.agg #[.string n, .string d]] w fun e w' => e = .returned (.tuple #[.string ⟨#[]⟩, .int .i64 (wrF n d : Int)]) ∧ Below w.heap.size w w' :=
  floor_call (fun W => show_bad h hn hd)
end Go.Proofs.YtnahindcgedbaaaDoor
