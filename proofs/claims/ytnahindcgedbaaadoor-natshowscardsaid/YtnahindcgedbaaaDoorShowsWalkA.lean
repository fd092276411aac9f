/- The walk of NatShows. -/
import Derived.Test.YtnahindcgedbaaaDoorLowFace
import Derived.Test.YtnahindcgedbaaaDoorShow
import Derived.Test.YtnahindcgedbaaaDoorTold
import Derived.Test.YtnahindcgedbaaaDoorRefWhole
set_option linter.unusedSimpArgs false
set_option linter.unusedVariables false
namespace Go.Proofs.YtnahindcgedbaaaDoor
open Go.RowKit Go.Deep Go.PlainAid

set_option maxRecDepth 100000 in
set_option maxHeartbeats 4000000 in
theorem shows_bad_bad {a b n d : ByteArray} {z : Int} {w : World} {A B1 NL DL NN DD : Nat} {S1 S2 f1 g1 : ByteArray}
    (x1 : Int) (hx1 : (x1 == 0) = false)
    (F9 : Hid (∀ W, Calls Tryd.prog 9 #[.string a, .string b] W fun e w' => e = .returned (.int .i64 x1) ∧ w' = W))
    (F39 : Hid (∀ W, Calls Tryd.prog 39 #[.string a, .string b] W fun e w' => e = .returned (.tuple #[.agg #[(.string ⟨#[]⟩), (.string ⟨#[]⟩)], .int .i64 x1]) ∧ Below W.heap.size W w'))
    (F26 : Hid (∀ W, Calls Tryd.prog 26 #[.int .i64 0] W fun e w' => (∃ u1 u2, e = .returned (.agg #[u1, u2]) ∧ NumV w' 10 0 u1 ∧ NumV w' 10 1 u2) ∧ Below W.heap.size W w'))
    (TT : Hid (∀ W p1 p2, Calls Tryd.prog 29 #[.agg #[(.string ⟨#[]⟩), (.string ⟨#[]⟩)], .int .i64 x1, .int .i64 x1, .agg #[p1, p2]] W fun e w' => e = .returned (.bool true) ∧ Below W.heap.size W w'))
    (x2 : Int) (hx2 : (x2 != 0) = true)
    (F25 : Hid (∀ W, Calls Tryd.prog 25 #[.string n, .string d] W fun e w' => e = .returned (.int .i64 x2) ∧ Below W.heap.size W w'))
    (F41 : Hid (∀ W, Calls Tryd.prog 41 #[.agg #[.string n, .string d]] W fun e w' => e = .returned (.tuple #[.string ⟨#[]⟩, .int .i64 x2]) ∧ Below W.heap.size W w'))
    (F42 : Hid (∀ W, Calls Tryd.prog 42 #[.agg #[.string n, .string d], .int .i64 z] W fun e w' => e = .returned (.tuple #[.string ⟨#[]⟩, .int .i64 x2]) ∧ Below W.heap.size W w'))
    (T12 : Hid (∀ W, Calls Tryd.prog 12 #[.string ⟨#[]⟩, .int .i64 x2, .int .i64 x2, .string ⟨#[]⟩] W fun e w' => e = .returned (.bool true) ∧ w' = W)) :
    Calls Tryd.prog 6 #[.string a, .string b, .agg #[.string n, .string d], .int .i64 z] w fun e w' => e = .returned (.bool true) ∧ Below w.heap.size w w' := by
  go_enter Tryd.func6, Tryd.ntmps6
  go_wp2_with fail
  obtain ⟨U1, hU1⟩ : ∃ X, X = (w.alloc (.cells #[(.string n), (.string d)] 41)) := ⟨_, rfl⟩
  have Jx : Hid (IHolds U1 (w.heap.size) 41 [(.string n), (.string d)]) := by
    have q := IHolds.new w 41 [(.string n), (.string d)]
    show IHolds _ _ _ _
    rw [hU1]
    exact q
  have B : Hid (Below w.heap.size w U1) := by
    show Below _ _ _
    rw [hU1]
    exact ((Below.refl _ w).alloc (Nat.le_refl _) _)
  rw [← hU1]
  clear hU1
  refine (F9.out U1).mono ?_
  rintro e V2 ⟨rfl, rfl⟩
  go_wp2_with fail
  refine (F39.out V2).mono ?_
  rintro e U3 ⟨rfl, hb⟩
  replace B := aB B hb
  replace Jx := aJ Jx hb
  clear hb
  have hb := nB U3 (.cells #[(.string ⟨#[]⟩), (.string ⟨#[]⟩)] 41)
  have Jf : Hid (IHolds (U3.alloc (.cells #[(.string ⟨#[]⟩), (.string ⟨#[]⟩)] 41)) U3.heap.size 41 [(.string ⟨#[]⟩), (.string ⟨#[]⟩)]) := IHolds.new _ _ _
  have ne_x_f := nJ Jx
  have ge_f : Hid (w.heap.size ≤ U3.heap.size) := B.out.size
  replace B := aB B hb
  replace Jx := aJ Jx hb
  clear hb
  go_wp2_with fail
  generalize (U3.alloc (.cells #[(.string ⟨#[]⟩), (.string ⟨#[]⟩)] 41)) = U4 at *
  generalize U3.heap.size = b5 at *
  refine (F26.out U4).mono ?_
  rintro e U6 ⟨⟨q1, q2, rfl, hv, hv'⟩, hb⟩
  have Nq1 : Hid (NumV U6 10 (0) q1) := hv
  have Nq2 : Hid (NumV U6 10 (1) q2) := hv'
  clear hv hv'
  replace B := aB B hb
  replace Jx := aJ Jx hb
  replace Jf := aJ Jf hb
  clear hb
  obtain ⟨q1_a, q1_l, q1_c, rfl⟩ := sN Nq1
  obtain ⟨q2_a, q2_l, q2_c, rfl⟩ := sN Nq2
  have hb := nB U6 (.cells #[(.slice q1_a q1_l q1_c), (.slice q2_a q2_l q2_c)] 43)
  have Jwt : Hid (IHolds (U6.alloc (.cells #[(.slice q1_a q1_l q1_c), (.slice q2_a q2_l q2_c)] 43)) U6.heap.size 43 [(.slice q1_a q1_l q1_c), (.slice q2_a q2_l q2_c)]) := IHolds.new _ _ _
  have ne_x_wt := nJ Jx
  have ne_f_wt := nJ Jf
  have ge_wt : Hid (w.heap.size ≤ U6.heap.size) := B.out.size
  replace B := aB B hb
  replace Jx := aJ Jx hb
  replace Jf := aJ Jf hb
  replace Nq1 := aN Nq1 hb
  replace Nq2 := aN Nq2 hb
  clear hb
  obtain ⟨zf_0, zf_1⟩ := cJ Jf
  go_wp2_with fail
  clear zf_0 zf_1
  generalize (U6.alloc (.cells #[(.slice q1_a q1_l q1_c), (.slice q2_a q2_l q2_c)] 43)) = U7 at *
  generalize U6.heap.size = b8 at *
  refine (TT.out U7 _ _).mono ?_
  rintro e U9 ⟨rfl, hb⟩
  replace B := aB B hb
  replace Jx := aJ Jx hb
  replace Jf := aJ Jf hb
  replace Jwt := aJ Jwt hb
  replace Nq1 := aN Nq1 hb
  replace Nq2 := aN Nq2 hb
  clear hb
  clear Nq1
  clear Nq2
  obtain ⟨zx_0, zx_1⟩ := cJ Jx
  go_wp2_with fail
  clear zx_0 zx_1
  refine (F25.out U9).mono ?_
  rintro e U10 ⟨rfl, hb⟩
  replace B := aB B hb
  replace Jx := aJ Jx hb
  replace Jf := aJ Jf hb
  replace Jwt := aJ Jwt hb
  clear hb
  obtain ⟨zx_0, zx_1⟩ := cJ Jx
  go_wp2_with fail
  clear zx_0 zx_1
  refine (F41.out U10).mono ?_
  rintro e U11 ⟨rfl, hb⟩
  replace B := aB B hb
  replace Jx := aJ Jx hb
  replace Jf := aJ Jf hb
  replace Jwt := aJ Jwt hb
  clear hb
  obtain ⟨zx_0, zx_1⟩ := cJ Jx
  go_wp2_with fail
  clear zx_0 zx_1
  refine (F42.out U11).mono ?_
  rintro e U12 ⟨rfl, hb⟩
  replace B := aB B hb
  replace Jx := aJ Jx hb
  replace Jf := aJ Jf hb
  replace Jwt := aJ Jwt hb
  clear hb
  go_wp2_with fail
  refine (T12.out U12).mono ?_
  rintro e V13 ⟨rfl, rfl⟩
  go_wp2_with fail
  refine (T12.out V13).mono ?_
  rintro e V14 ⟨rfl, rfl⟩
  go_wp2_with fail
  go_ret
  exact ⟨rfl, B.out⟩
set_option maxRecDepth 100000 in
set_option maxHeartbeats 4000000 in
theorem shows_bad_range {a b n d : ByteArray} {z : Int} {w : World} {A B1 NL DL NN DD : Nat} {S1 S2 f1 g1 : ByteArray}
    (x1 : Int) (hx1 : (x1 == 0) = false)
    (F9 : Hid (∀ W, Calls Tryd.prog 9 #[.string a, .string b] W fun e w' => e = .returned (.int .i64 x1) ∧ w' = W))
    (F39 : Hid (∀ W, Calls Tryd.prog 39 #[.string a, .string b] W fun e w' => e = .returned (.tuple #[.agg #[(.string ⟨#[]⟩), (.string ⟨#[]⟩)], .int .i64 x1]) ∧ Below W.heap.size W w'))
    (F26 : Hid (∀ W, Calls Tryd.prog 26 #[.int .i64 0] W fun e w' => (∃ u1 u2, e = .returned (.agg #[u1, u2]) ∧ NumV w' 10 0 u1 ∧ NumV w' 10 1 u2) ∧ Below W.heap.size W w'))
    (TT : Hid (∀ W p1 p2, Calls Tryd.prog 29 #[.agg #[(.string ⟨#[]⟩), (.string ⟨#[]⟩)], .int .i64 x1, .int .i64 x1, .agg #[p1, p2]] W fun e w' => e = .returned (.bool true) ∧ Below W.heap.size W w'))
    (F25 : Hid (∀ W, Calls Tryd.prog 25 #[.string n, .string d] W fun e w' => e = .returned (.int .i64 0) ∧ Below W.heap.size W w'))
    (F41 : Hid (∀ W, Calls Tryd.prog 41 #[.agg #[.string n, .string d]] W fun e w' => e = .returned (.tuple #[.string f1, .int .i64 0]) ∧ Below W.heap.size W w'))
    (F42 : Hid (∀ W, Calls Tryd.prog 42 #[.agg #[.string n, .string d], .int .i64 z] W fun e w' => e = .returned (.tuple #[.string ⟨#[]⟩, .int .i64 4]) ∧ Below W.heap.size W w'))
    (F27 : Hid (∀ W, Calls Tryd.prog 27 #[.agg #[.string n, .string d]] W fun e w' => (∃ u1 u2, e = .returned (.agg #[u1, u2]) ∧ NumV w' 10 NN u1 ∧ NumV w' 10 DD u2) ∧ Below W.heap.size W w'))
    (F43 : Hid (∀ W p1 p2, NumV W 10 NN p1 → NumV W 10 DD p2 → Calls Tryd.prog 43 #[.agg #[p1, p2], .int .i64 0] W fun e w' => e = .returned (.string f1) ∧ Below W.heap.size W w'))
    (T12 : Hid (∀ W, Calls Tryd.prog 12 #[.string f1, .int .i64 0, .int .i64 0, .string f1] W fun e w' => e = .returned (.bool true) ∧ w' = W))
    (hz : z < 0 ∨ (¬ z < 0 ∧ 100 < z))
    (T4 : Hid (∀ W, Calls Tryd.prog 12 #[.string ⟨#[]⟩, .int .i64 4, .int .i64 4, .string ⟨#[]⟩] W fun e w' => e = .returned (.bool true) ∧ w' = W)) :
    Calls Tryd.prog 6 #[.string a, .string b, .agg #[.string n, .string d], .int .i64 z] w fun e w' => e = .returned (.bool true) ∧ Below w.heap.size w w' := by
  go_enter Tryd.func6, Tryd.ntmps6
  go_wp2_with fail
  obtain ⟨U1, hU1⟩ : ∃ X, X = (w.alloc (.cells #[(.string n), (.string d)] 41)) := ⟨_, rfl⟩
  have Jx : Hid (IHolds U1 (w.heap.size) 41 [(.string n), (.string d)]) := by
    have q := IHolds.new w 41 [(.string n), (.string d)]
    show IHolds _ _ _ _
    rw [hU1]
    exact q
  have B : Hid (Below w.heap.size w U1) := by
    show Below _ _ _
    rw [hU1]
    exact ((Below.refl _ w).alloc (Nat.le_refl _) _)
  rw [← hU1]
  clear hU1
  refine (F9.out U1).mono ?_
  rintro e V2 ⟨rfl, rfl⟩
  go_wp2_with fail
  refine (F39.out V2).mono ?_
  rintro e U3 ⟨rfl, hb⟩
  replace B := aB B hb
  replace Jx := aJ Jx hb
  clear hb
  have hb := nB U3 (.cells #[(.string ⟨#[]⟩), (.string ⟨#[]⟩)] 41)
  have Jf : Hid (IHolds (U3.alloc (.cells #[(.string ⟨#[]⟩), (.string ⟨#[]⟩)] 41)) U3.heap.size 41 [(.string ⟨#[]⟩), (.string ⟨#[]⟩)]) := IHolds.new _ _ _
  have ne_x_f := nJ Jx
  have ge_f : Hid (w.heap.size ≤ U3.heap.size) := B.out.size
  replace B := aB B hb
  replace Jx := aJ Jx hb
  clear hb
  go_wp2_with fail
  generalize (U3.alloc (.cells #[(.string ⟨#[]⟩), (.string ⟨#[]⟩)] 41)) = U4 at *
  generalize U3.heap.size = b5 at *
  refine (F26.out U4).mono ?_
  rintro e U6 ⟨⟨q1, q2, rfl, hv, hv'⟩, hb⟩
  have Nq1 : Hid (NumV U6 10 (0) q1) := hv
  have Nq2 : Hid (NumV U6 10 (1) q2) := hv'
  clear hv hv'
  replace B := aB B hb
  replace Jx := aJ Jx hb
  replace Jf := aJ Jf hb
  clear hb
  obtain ⟨q1_a, q1_l, q1_c, rfl⟩ := sN Nq1
  obtain ⟨q2_a, q2_l, q2_c, rfl⟩ := sN Nq2
  have hb := nB U6 (.cells #[(.slice q1_a q1_l q1_c), (.slice q2_a q2_l q2_c)] 43)
  have Jwt : Hid (IHolds (U6.alloc (.cells #[(.slice q1_a q1_l q1_c), (.slice q2_a q2_l q2_c)] 43)) U6.heap.size 43 [(.slice q1_a q1_l q1_c), (.slice q2_a q2_l q2_c)]) := IHolds.new _ _ _
  have ne_x_wt := nJ Jx
  have ne_f_wt := nJ Jf
  have ge_wt : Hid (w.heap.size ≤ U6.heap.size) := B.out.size
  replace B := aB B hb
  replace Jx := aJ Jx hb
  replace Jf := aJ Jf hb
  replace Nq1 := aN Nq1 hb
  replace Nq2 := aN Nq2 hb
  clear hb
  obtain ⟨zf_0, zf_1⟩ := cJ Jf
  go_wp2_with fail
  clear zf_0 zf_1
  generalize (U6.alloc (.cells #[(.slice q1_a q1_l q1_c), (.slice q2_a q2_l q2_c)] 43)) = U7 at *
  generalize U6.heap.size = b8 at *
  refine (TT.out U7 _ _).mono ?_
  rintro e U9 ⟨rfl, hb⟩
  replace B := aB B hb
  replace Jx := aJ Jx hb
  replace Jf := aJ Jf hb
  replace Jwt := aJ Jwt hb
  replace Nq1 := aN Nq1 hb
  replace Nq2 := aN Nq2 hb
  clear hb
  clear Nq1
  clear Nq2
  obtain ⟨zx_0, zx_1⟩ := cJ Jx
  go_wp2_with fail
  clear zx_0 zx_1
  refine (F25.out U9).mono ?_
  rintro e U10 ⟨rfl, hb⟩
  replace B := aB B hb
  replace Jx := aJ Jx hb
  replace Jf := aJ Jf hb
  replace Jwt := aJ Jwt hb
  clear hb
  obtain ⟨zx_0, zx_1⟩ := cJ Jx
  go_wp2_with fail
  clear zx_0 zx_1
  refine (F41.out U10).mono ?_
  rintro e U11 ⟨rfl, hb⟩
  replace B := aB B hb
  replace Jx := aJ Jx hb
  replace Jf := aJ Jf hb
  replace Jwt := aJ Jwt hb
  clear hb
  obtain ⟨zx_0, zx_1⟩ := cJ Jx
  go_wp2_with fail
  clear zx_0 zx_1
  refine (F27.out U11).mono ?_
  rintro e U12 ⟨⟨v1, v2, rfl, hv, hv'⟩, hb⟩
  have Nv1 : Hid (NumV U12 10 (NN) v1) := hv
  have Nv2 : Hid (NumV U12 10 (DD) v2) := hv'
  clear hv hv'
  replace B := aB B hb
  replace Jx := aJ Jx hb
  replace Jf := aJ Jf hb
  replace Jwt := aJ Jwt hb
  clear hb
  go_wp2_with fail
  refine (F43.out U12 _ _ Nv1.out Nv2.out).mono ?_
  rintro e U13 ⟨rfl, hb⟩
  replace B := aB B hb
  replace Jx := aJ Jx hb
  replace Jf := aJ Jf hb
  replace Jwt := aJ Jwt hb
  replace Nv1 := aN Nv1 hb
  replace Nv2 := aN Nv2 hb
  clear hb
  go_wp2_with fail
  refine (T12.out U13).mono ?_
  rintro e V14 ⟨rfl, rfl⟩
  obtain ⟨zx_0, zx_1⟩ := cJ Jx
  go_wp2_with fail
  clear zx_0 zx_1
  refine (F42.out V14).mono ?_
  rintro e U15 ⟨rfl, hb⟩
  replace B := aB B hb
  replace Jx := aJ Jx hb
  replace Jf := aJ Jf hb
  replace Jwt := aJ Jwt hb
  replace Nv1 := aN Nv1 hb
  replace Nv2 := aN Nv2 hb
  clear hb
  rcases hz with hz | ⟨hz, hz2⟩
  · skip
    go_wp2_with fail
    refine (T4.out U15).mono ?_
    rintro e V16 ⟨rfl, rfl⟩
    go_wp2_with fail
    go_ret
    exact ⟨rfl, B.out⟩
  · skip
    go_wp2_with fail
    refine (T4.out U15).mono ?_
    rintro e V17 ⟨rfl, rfl⟩
    go_wp2_with fail
    go_ret
    exact ⟨rfl, B.out⟩
set_option maxRecDepth 100000 in
set_option maxHeartbeats 4000000 in
theorem shows_bad_ok {a b n d : ByteArray} {z : Int} {w : World} {A B1 NL DL NN DD : Nat} {S1 S2 f1 g1 : ByteArray}
    (x1 : Int) (hx1 : (x1 == 0) = false)
    (F9 : Hid (∀ W, Calls Tryd.prog 9 #[.string a, .string b] W fun e w' => e = .returned (.int .i64 x1) ∧ w' = W))
    (F39 : Hid (∀ W, Calls Tryd.prog 39 #[.string a, .string b] W fun e w' => e = .returned (.tuple #[.agg #[(.string ⟨#[]⟩), (.string ⟨#[]⟩)], .int .i64 x1]) ∧ Below W.heap.size W w'))
    (F26 : Hid (∀ W, Calls Tryd.prog 26 #[.int .i64 0] W fun e w' => (∃ u1 u2, e = .returned (.agg #[u1, u2]) ∧ NumV w' 10 0 u1 ∧ NumV w' 10 1 u2) ∧ Below W.heap.size W w'))
    (TT : Hid (∀ W p1 p2, Calls Tryd.prog 29 #[.agg #[(.string ⟨#[]⟩), (.string ⟨#[]⟩)], .int .i64 x1, .int .i64 x1, .agg #[p1, p2]] W fun e w' => e = .returned (.bool true) ∧ Below W.heap.size W w'))
    (F25 : Hid (∀ W, Calls Tryd.prog 25 #[.string n, .string d] W fun e w' => e = .returned (.int .i64 0) ∧ Below W.heap.size W w'))
    (F41 : Hid (∀ W, Calls Tryd.prog 41 #[.agg #[.string n, .string d]] W fun e w' => e = .returned (.tuple #[.string f1, .int .i64 0]) ∧ Below W.heap.size W w'))
    (F42 : Hid (∀ W, Calls Tryd.prog 42 #[.agg #[.string n, .string d], .int .i64 z] W fun e w' => e = .returned (.tuple #[.string g1, .int .i64 0]) ∧ Below W.heap.size W w'))
    (F27 : Hid (∀ W, Calls Tryd.prog 27 #[.agg #[.string n, .string d]] W fun e w' => (∃ u1 u2, e = .returned (.agg #[u1, u2]) ∧ NumV w' 10 NN u1 ∧ NumV w' 10 DD u2) ∧ Below W.heap.size W w'))
    (F43 : Hid (∀ W p1 p2, NumV W 10 NN p1 → NumV W 10 DD p2 → Calls Tryd.prog 43 #[.agg #[p1, p2], .int .i64 0] W fun e w' => e = .returned (.string f1) ∧ Below W.heap.size W w'))
    (T12 : Hid (∀ W, Calls Tryd.prog 12 #[.string f1, .int .i64 0, .int .i64 0, .string f1] W fun e w' => e = .returned (.bool true) ∧ w' = W))
    (hz : ¬ z < 0) (hz2 : ¬ 100 < z)
    (G43 : Hid (∀ W p1 p2, NumV W 10 NN p1 → NumV W 10 DD p2 → Calls Tryd.prog 43 #[.agg #[p1, p2], .int .i64 z] W fun e w' => e = .returned (.string g1) ∧ Below W.heap.size W w'))
    (TG : Hid (∀ W, Calls Tryd.prog 12 #[.string g1, .int .i64 0, .int .i64 0, .string g1] W fun e w' => e = .returned (.bool true) ∧ w' = W)) :
    Calls Tryd.prog 6 #[.string a, .string b, .agg #[.string n, .string d], .int .i64 z] w fun e w' => e = .returned (.bool true) ∧ Below w.heap.size w w' := by
  go_enter Tryd.func6, Tryd.ntmps6
  go_wp2_with fail
  obtain ⟨U1, hU1⟩ : ∃ X, X = (w.alloc (.cells #[(.string n), (.string d)] 41)) := ⟨_, rfl⟩
  have Jx : Hid (IHolds U1 (w.heap.size) 41 [(.string n), (.string d)]) := by
    have q := IHolds.new w 41 [(.string n), (.string d)]
    show IHolds _ _ _ _
    rw [hU1]
    exact q
  have B : Hid (Below w.heap.size w U1) := by
    show Below _ _ _
    rw [hU1]
    exact ((Below.refl _ w).alloc (Nat.le_refl _) _)
  rw [← hU1]
  clear hU1
  refine (F9.out U1).mono ?_
  rintro e V2 ⟨rfl, rfl⟩
  go_wp2_with fail
  refine (F39.out V2).mono ?_
  rintro e U3 ⟨rfl, hb⟩
  replace B := aB B hb
  replace Jx := aJ Jx hb
  clear hb
  have hb := nB U3 (.cells #[(.string ⟨#[]⟩), (.string ⟨#[]⟩)] 41)
  have Jf : Hid (IHolds (U3.alloc (.cells #[(.string ⟨#[]⟩), (.string ⟨#[]⟩)] 41)) U3.heap.size 41 [(.string ⟨#[]⟩), (.string ⟨#[]⟩)]) := IHolds.new _ _ _
  have ne_x_f := nJ Jx
  have ge_f : Hid (w.heap.size ≤ U3.heap.size) := B.out.size
  replace B := aB B hb
  replace Jx := aJ Jx hb
  clear hb
  go_wp2_with fail
  generalize (U3.alloc (.cells #[(.string ⟨#[]⟩), (.string ⟨#[]⟩)] 41)) = U4 at *
  generalize U3.heap.size = b5 at *
  refine (F26.out U4).mono ?_
  rintro e U6 ⟨⟨q1, q2, rfl, hv, hv'⟩, hb⟩
  have Nq1 : Hid (NumV U6 10 (0) q1) := hv
  have Nq2 : Hid (NumV U6 10 (1) q2) := hv'
  clear hv hv'
  replace B := aB B hb
  replace Jx := aJ Jx hb
  replace Jf := aJ Jf hb
  clear hb
  obtain ⟨q1_a, q1_l, q1_c, rfl⟩ := sN Nq1
  obtain ⟨q2_a, q2_l, q2_c, rfl⟩ := sN Nq2
  have hb := nB U6 (.cells #[(.slice q1_a q1_l q1_c), (.slice q2_a q2_l q2_c)] 43)
  have Jwt : Hid (IHolds (U6.alloc (.cells #[(.slice q1_a q1_l q1_c), (.slice q2_a q2_l q2_c)] 43)) U6.heap.size 43 [(.slice q1_a q1_l q1_c), (.slice q2_a q2_l q2_c)]) := IHolds.new _ _ _
  have ne_x_wt := nJ Jx
  have ne_f_wt := nJ Jf
  have ge_wt : Hid (w.heap.size ≤ U6.heap.size) := B.out.size
  replace B := aB B hb
  replace Jx := aJ Jx hb
  replace Jf := aJ Jf hb
  replace Nq1 := aN Nq1 hb
  replace Nq2 := aN Nq2 hb
  clear hb
  obtain ⟨zf_0, zf_1⟩ := cJ Jf
  go_wp2_with fail
  clear zf_0 zf_1
  generalize (U6.alloc (.cells #[(.slice q1_a q1_l q1_c), (.slice q2_a q2_l q2_c)] 43)) = U7 at *
  generalize U6.heap.size = b8 at *
  refine (TT.out U7 _ _).mono ?_
  rintro e U9 ⟨rfl, hb⟩
  replace B := aB B hb
  replace Jx := aJ Jx hb
  replace Jf := aJ Jf hb
  replace Jwt := aJ Jwt hb
  replace Nq1 := aN Nq1 hb
  replace Nq2 := aN Nq2 hb
  clear hb
  clear Nq1
  clear Nq2
  obtain ⟨zx_0, zx_1⟩ := cJ Jx
  go_wp2_with fail
  clear zx_0 zx_1
  refine (F25.out U9).mono ?_
  rintro e U10 ⟨rfl, hb⟩
  replace B := aB B hb
  replace Jx := aJ Jx hb
  replace Jf := aJ Jf hb
  replace Jwt := aJ Jwt hb
  clear hb
  obtain ⟨zx_0, zx_1⟩ := cJ Jx
  go_wp2_with fail
  clear zx_0 zx_1
  refine (F41.out U10).mono ?_
  rintro e U11 ⟨rfl, hb⟩
  replace B := aB B hb
  replace Jx := aJ Jx hb
  replace Jf := aJ Jf hb
  replace Jwt := aJ Jwt hb
  clear hb
  obtain ⟨zx_0, zx_1⟩ := cJ Jx
  go_wp2_with fail
  clear zx_0 zx_1
  refine (F27.out U11).mono ?_
  rintro e U12 ⟨⟨v1, v2, rfl, hv, hv'⟩, hb⟩
  have Nv1 : Hid (NumV U12 10 (NN) v1) := hv
  have Nv2 : Hid (NumV U12 10 (DD) v2) := hv'
  clear hv hv'
  replace B := aB B hb
  replace Jx := aJ Jx hb
  replace Jf := aJ Jf hb
  replace Jwt := aJ Jwt hb
  clear hb
  go_wp2_with fail
  refine (F43.out U12 _ _ Nv1.out Nv2.out).mono ?_
  rintro e U13 ⟨rfl, hb⟩
  replace B := aB B hb
  replace Jx := aJ Jx hb
  replace Jf := aJ Jf hb
  replace Jwt := aJ Jwt hb
  replace Nv1 := aN Nv1 hb
  replace Nv2 := aN Nv2 hb
  clear hb
  go_wp2_with fail
  refine (T12.out U13).mono ?_
  rintro e V14 ⟨rfl, rfl⟩
  obtain ⟨zx_0, zx_1⟩ := cJ Jx
  go_wp2_with fail
  clear zx_0 zx_1
  refine (F42.out V14).mono ?_
  rintro e U15 ⟨rfl, hb⟩
  replace B := aB B hb
  replace Jx := aJ Jx hb
  replace Jf := aJ Jf hb
  replace Jwt := aJ Jwt hb
  replace Nv1 := aN Nv1 hb
  replace Nv2 := aN Nv2 hb
  clear hb
  obtain ⟨zx_0, zx_1⟩ := cJ Jx
  go_wp2_with fail
  clear zx_0 zx_1
  refine (F27.out U15).mono ?_
  rintro e U16 ⟨⟨v3, v4, rfl, hv, hv'⟩, hb⟩
  have Nv3 : Hid (NumV U16 10 (NN) v3) := hv
  have Nv4 : Hid (NumV U16 10 (DD) v4) := hv'
  clear hv hv'
  replace B := aB B hb
  replace Jx := aJ Jx hb
  replace Jf := aJ Jf hb
  replace Jwt := aJ Jwt hb
  replace Nv1 := aN Nv1 hb
  replace Nv2 := aN Nv2 hb
  clear hb
  go_wp2_with fail
  refine (G43.out U16 _ _ Nv3.out Nv4.out).mono ?_
  rintro e U17 ⟨rfl, hb⟩
  replace B := aB B hb
  replace Jx := aJ Jx hb
  replace Jf := aJ Jf hb
  replace Jwt := aJ Jwt hb
  replace Nv1 := aN Nv1 hb
  replace Nv2 := aN Nv2 hb
  replace Nv3 := aN Nv3 hb
  replace Nv4 := aN Nv4 hb
  clear hb
  go_wp2_with fail
  refine (TG.out U17).mono ?_
  rintro e V18 ⟨rfl, rfl⟩
  go_wp2_with fail
  go_ret
  exact ⟨rfl, B.out⟩
end Go.Proofs.YtnahindcgedbaaaDoor
