/- The laws BallotBinds and BallotCounts, walked. -/
import Derived.Test.YtghkjjhnokjjiaaBalB
set_option linter.unusedSimpArgs false
set_option linter.unusedVariables false
set_option maxRecDepth 100000
namespace Go.Proofs.Ytghkjjhnokjjiaa
open Go.RowKit Go.Deep Go.PlainAid

theorem alive11 {w : World} (h : Hid (∀ W, Calls Try.prog 13 #[.int .i64 1, .string ⟨#[0, 5]⟩] W fun e w' => e = .returned (.bool true) ∧ Below W.heap.size W w')) : Calls Try.prog 11 #[] w fun e w' => e = .returned (.bool true) ∧ Below w.heap.size w w' := by
  go_enter Try.func11, Try.ntmps11
  go_wp2_with (go_at_call 13; refine (h.out _).mono ?_; rintro e w1 ⟨rfl, hB1⟩)
  go_ret
  exact ⟨rfl, hB1⟩
set_option maxRecDepth 100000 in
set_option maxHeartbeats 2000000 in
theorem binds_none1 {w : World} {z : Int} {s x y v n r : ByteArray} (CP : Hid (∀ W, Calls Try.prog 5 #[.int .i64 z, .string s] W fun e w' => e = .returned (.tuple #[.string r, .int .i64 1]) ∧ Below W.heap.size W w')) :
    Calls Try.prog 3 #[.int .i64 z, .string s, .string x, .string y, .string v, .string n] w fun e w' => e = .returned (.bool true) ∧ Below w.heap.size w w' := by
  have B : Hid (Below w.heap.size w w) := Below.refl _ _
  go_enter Try.func3, Try.ntmps3
  go_wp2_with fail
  refine (CP.out w).mono ?_
  rintro e U1 ⟨rfl, hb⟩
  replace B := aB B hb
  clear hb
  go_wp2_with fail
  go_ret
  exact ⟨rfl, B.out⟩
set_option maxRecDepth 100000 in
set_option maxHeartbeats 2000000 in
theorem binds_none6 {w : World} {z : Int} {s x y v n r : ByteArray} (CP : Hid (∀ W, Calls Try.prog 5 #[.int .i64 z, .string s] W fun e w' => e = .returned (.tuple #[.string r, .int .i64 6]) ∧ Below W.heap.size W w')) :
    Calls Try.prog 3 #[.int .i64 z, .string s, .string x, .string y, .string v, .string n] w fun e w' => e = .returned (.bool true) ∧ Below w.heap.size w w' := by
  have B : Hid (Below w.heap.size w w) := Below.refl _ _
  go_enter Try.func3, Try.ntmps3
  go_wp2_with fail
  refine (CP.out w).mono ?_
  rintro e U1 ⟨rfl, hb⟩
  replace B := aB B hb
  clear hb
  go_wp2_with fail
  go_ret
  exact ⟨rfl, B.out⟩
set_option maxRecDepth 100000 in
set_option maxHeartbeats 2000000 in
theorem binds_bad60 {w : World} {z : Int} {s x y v n key p2 q2 : ByteArray} (CP : Hid (∀ W, Calls Try.prog 5 #[.int .i64 z, .string s] W fun e w' => e = .returned (.tuple #[.string key, .int .i64 0]) ∧ Below W.heap.size W w')) (CA : Hid (∀ W, Calls Try.prog 6 #[.int .i64 z, .string key, .string x, .string v] W fun e w' => e = .returned (.tuple #[.agg #[.string ⟨#[]⟩, .string ⟨#[]⟩], .int .i64 6]) ∧ Below W.heap.size W w')) (CB : Hid (∀ W, Calls Try.prog 6 #[.int .i64 z, .string key, .string y, .string n] W fun e w' => e = .returned (.tuple #[.agg #[.string p2, .string q2], .int .i64 0]) ∧ Below W.heap.size W w')) :
    Calls Try.prog 3 #[.int .i64 z, .string s, .string x, .string y, .string v, .string n] w fun e w' => e = .returned (.bool true) ∧ Below w.heap.size w w' := by
  have B : Hid (Below w.heap.size w w) := Below.refl _ _
  go_enter Try.func3, Try.ntmps3
  go_wp2_with fail
  refine (CP.out w).mono ?_
  rintro e U1 ⟨rfl, hb⟩
  replace B := aB B hb
  clear hb
  go_wp2_with fail
  refine (CA.out U1).mono ?_
  rintro e U2 ⟨rfl, hb⟩
  replace B := aB B hb
  clear hb
  have hb := nB U2 (.cells #[.string ⟨#[]⟩, .string ⟨#[]⟩] 26)
  have Ja : Hid (IHolds (U2.alloc (.cells #[.string ⟨#[]⟩, .string ⟨#[]⟩] 26)) U2.heap.size 26 [.string ⟨#[]⟩, .string ⟨#[]⟩]) := IHolds.new _ _ _
  have ge_a : Hid (w.heap.size ≤ U2.heap.size) := B.out.size
  replace B := aB B hb
  clear hb
  go_wp2_with fail
  generalize (U2.alloc (.cells #[.string ⟨#[]⟩, .string ⟨#[]⟩] 26)) = U3 at *
  generalize U2.heap.size = b4 at *
  refine (CB.out U3).mono ?_
  rintro e U5 ⟨rfl, hb⟩
  replace B := aB B hb
  replace Ja := aJ Ja hb
  clear hb
  have hb := nB U5 (.cells #[.string p2, .string q2] 26)
  have Jb : Hid (IHolds (U5.alloc (.cells #[.string p2, .string q2] 26)) U5.heap.size 26 [.string p2, .string q2]) := IHolds.new _ _ _
  have ne_a_b := nJ Ja
  have ge_b : Hid (w.heap.size ≤ U5.heap.size) := B.out.size
  replace B := aB B hb
  replace Ja := aJ Ja hb
  clear hb
  go_wp2_with fail
  generalize (U5.alloc (.cells #[.string p2, .string q2] 26)) = U6 at *
  generalize U5.heap.size = b7 at *
  go_ret
  exact ⟨rfl, B.out⟩
set_option maxRecDepth 100000 in
set_option maxHeartbeats 2000000 in
theorem binds_bad06 {w : World} {z : Int} {s x y v n key p q : ByteArray} (CP : Hid (∀ W, Calls Try.prog 5 #[.int .i64 z, .string s] W fun e w' => e = .returned (.tuple #[.string key, .int .i64 0]) ∧ Below W.heap.size W w')) (CA : Hid (∀ W, Calls Try.prog 6 #[.int .i64 z, .string key, .string x, .string v] W fun e w' => e = .returned (.tuple #[.agg #[.string p, .string q], .int .i64 0]) ∧ Below W.heap.size W w')) (CB : Hid (∀ W, Calls Try.prog 6 #[.int .i64 z, .string key, .string y, .string n] W fun e w' => e = .returned (.tuple #[.agg #[.string ⟨#[]⟩, .string ⟨#[]⟩], .int .i64 6]) ∧ Below W.heap.size W w')) :
    Calls Try.prog 3 #[.int .i64 z, .string s, .string x, .string y, .string v, .string n] w fun e w' => e = .returned (.bool true) ∧ Below w.heap.size w w' := by
  have B : Hid (Below w.heap.size w w) := Below.refl _ _
  go_enter Try.func3, Try.ntmps3
  go_wp2_with fail
  refine (CP.out w).mono ?_
  rintro e U1 ⟨rfl, hb⟩
  replace B := aB B hb
  clear hb
  go_wp2_with fail
  refine (CA.out U1).mono ?_
  rintro e U2 ⟨rfl, hb⟩
  replace B := aB B hb
  clear hb
  have hb := nB U2 (.cells #[.string p, .string q] 26)
  have Ja : Hid (IHolds (U2.alloc (.cells #[.string p, .string q] 26)) U2.heap.size 26 [.string p, .string q]) := IHolds.new _ _ _
  have ge_a : Hid (w.heap.size ≤ U2.heap.size) := B.out.size
  replace B := aB B hb
  clear hb
  go_wp2_with fail
  generalize (U2.alloc (.cells #[.string p, .string q] 26)) = U3 at *
  generalize U2.heap.size = b4 at *
  refine (CB.out U3).mono ?_
  rintro e U5 ⟨rfl, hb⟩
  replace B := aB B hb
  replace Ja := aJ Ja hb
  clear hb
  have hb := nB U5 (.cells #[.string ⟨#[]⟩, .string ⟨#[]⟩] 26)
  have Jb : Hid (IHolds (U5.alloc (.cells #[.string ⟨#[]⟩, .string ⟨#[]⟩] 26)) U5.heap.size 26 [.string ⟨#[]⟩, .string ⟨#[]⟩]) := IHolds.new _ _ _
  have ne_a_b := nJ Ja
  have ge_b : Hid (w.heap.size ≤ U5.heap.size) := B.out.size
  replace B := aB B hb
  replace Ja := aJ Ja hb
  clear hb
  go_wp2_with fail
  generalize (U5.alloc (.cells #[.string ⟨#[]⟩, .string ⟨#[]⟩] 26)) = U6 at *
  generalize U5.heap.size = b7 at *
  go_ret
  exact ⟨rfl, B.out⟩
set_option maxRecDepth 100000 in
set_option maxHeartbeats 2000000 in
theorem binds_bad66 {w : World} {z : Int} {s x y v n key : ByteArray} (CP : Hid (∀ W, Calls Try.prog 5 #[.int .i64 z, .string s] W fun e w' => e = .returned (.tuple #[.string key, .int .i64 0]) ∧ Below W.heap.size W w')) (CA : Hid (∀ W, Calls Try.prog 6 #[.int .i64 z, .string key, .string x, .string v] W fun e w' => e = .returned (.tuple #[.agg #[.string ⟨#[]⟩, .string ⟨#[]⟩], .int .i64 6]) ∧ Below W.heap.size W w')) (CB : Hid (∀ W, Calls Try.prog 6 #[.int .i64 z, .string key, .string y, .string n] W fun e w' => e = .returned (.tuple #[.agg #[.string ⟨#[]⟩, .string ⟨#[]⟩], .int .i64 6]) ∧ Below W.heap.size W w')) :
    Calls Try.prog 3 #[.int .i64 z, .string s, .string x, .string y, .string v, .string n] w fun e w' => e = .returned (.bool true) ∧ Below w.heap.size w w' := by
  have B : Hid (Below w.heap.size w w) := Below.refl _ _
  go_enter Try.func3, Try.ntmps3
  go_wp2_with fail
  refine (CP.out w).mono ?_
  rintro e U1 ⟨rfl, hb⟩
  replace B := aB B hb
  clear hb
  go_wp2_with fail
  refine (CA.out U1).mono ?_
  rintro e U2 ⟨rfl, hb⟩
  replace B := aB B hb
  clear hb
  have hb := nB U2 (.cells #[.string ⟨#[]⟩, .string ⟨#[]⟩] 26)
  have Ja : Hid (IHolds (U2.alloc (.cells #[.string ⟨#[]⟩, .string ⟨#[]⟩] 26)) U2.heap.size 26 [.string ⟨#[]⟩, .string ⟨#[]⟩]) := IHolds.new _ _ _
  have ge_a : Hid (w.heap.size ≤ U2.heap.size) := B.out.size
  replace B := aB B hb
  clear hb
  go_wp2_with fail
  generalize (U2.alloc (.cells #[.string ⟨#[]⟩, .string ⟨#[]⟩] 26)) = U3 at *
  generalize U2.heap.size = b4 at *
  refine (CB.out U3).mono ?_
  rintro e U5 ⟨rfl, hb⟩
  replace B := aB B hb
  replace Ja := aJ Ja hb
  clear hb
  have hb := nB U5 (.cells #[.string ⟨#[]⟩, .string ⟨#[]⟩] 26)
  have Jb : Hid (IHolds (U5.alloc (.cells #[.string ⟨#[]⟩, .string ⟨#[]⟩] 26)) U5.heap.size 26 [.string ⟨#[]⟩, .string ⟨#[]⟩]) := IHolds.new _ _ _
  have ne_a_b := nJ Ja
  have ge_b : Hid (w.heap.size ≤ U5.heap.size) := B.out.size
  replace B := aB B hb
  replace Ja := aJ Ja hb
  clear hb
  go_wp2_with fail
  generalize (U5.alloc (.cells #[.string ⟨#[]⟩, .string ⟨#[]⟩] 26)) = U6 at *
  generalize U5.heap.size = b7 at *
  go_ret
  exact ⟨rfl, B.out⟩
set_option maxRecDepth 100000 in
set_option maxHeartbeats 2000000 in
theorem binds_ok {w : World} {z : Int} {s x y v n key p q p2 q2 p3 q3 t b : ByteArray} (CP : Hid (∀ W, Calls Try.prog 5 #[.int .i64 z, .string s] W fun e w' => e = .returned (.tuple #[.string key, .int .i64 0]) ∧ Below W.heap.size W w')) (CA : Hid (∀ W, Calls Try.prog 6 #[.int .i64 z, .string key, .string x, .string v] W fun e w' => e = .returned (.tuple #[.agg #[.string p, .string q], .int .i64 0]) ∧ Below W.heap.size W w')) (CB : Hid (∀ W, Calls Try.prog 6 #[.int .i64 z, .string key, .string y, .string n] W fun e w' => e = .returned (.tuple #[.agg #[.string p2, .string q2], .int .i64 0]) ∧ Below W.heap.size W w')) (CR : Hid (∀ W, Calls Try.prog 7 #[.int .i64 z, .string key, .agg #[.string p, .string q], .string n] W fun e w' => e = .returned (.tuple #[.agg #[.string p3, .string q3], .int .i64 0]) ∧ Below W.heap.size W w')) (CD : Hid (∀ W, Calls Try.prog 8 #[.int .i64 z, .string s, .agg #[.string p, .string q]] W fun e w' => e = .returned (.tuple #[.string t, .int .i64 0]) ∧ Below W.heap.size W w')) (CE : Hid (∀ W, Calls Try.prog 8 #[.int .i64 z, .string s, .agg #[.string p3, .string q3]] W fun e w' => e = .returned (.tuple #[.string t, .int .i64 0]) ∧ Below W.heap.size W w')) (CS : Hid (∀ W, Calls Try.prog 9 #[.int .i64 z] W fun e w' => e = .returned (.tuple #[.string b, .int .i64 0]) ∧ Below W.heap.size W w')) (CW : Hid (∀ W, Calls Try.prog 10 #[.int .i64 z, .string b, .string x] W fun e w' => e = .returned (.tuple #[.string t, .int .i64 0]) ∧ Below W.heap.size W w')) (hE : Hid ((p.toList = p2.toList ∧ q.toList = q2.toList) ↔ (x.toList = y.toList ∧ v.toList = n.toList))) :
    Calls Try.prog 3 #[.int .i64 z, .string s, .string x, .string y, .string v, .string n] w fun e w' => e = .returned (.bool true) ∧ Below w.heap.size w w' := by
  have B : Hid (Below w.heap.size w w) := Below.refl _ _
  go_enter Try.func3, Try.ntmps3
  go_wp2_with fail
  refine (CP.out w).mono ?_
  rintro e U1 ⟨rfl, hb⟩
  replace B := aB B hb
  clear hb
  go_wp2_with fail
  refine (CA.out U1).mono ?_
  rintro e U2 ⟨rfl, hb⟩
  replace B := aB B hb
  clear hb
  have hb := nB U2 (.cells #[.string p, .string q] 26)
  have Ja : Hid (IHolds (U2.alloc (.cells #[.string p, .string q] 26)) U2.heap.size 26 [.string p, .string q]) := IHolds.new _ _ _
  have ge_a : Hid (w.heap.size ≤ U2.heap.size) := B.out.size
  replace B := aB B hb
  clear hb
  go_wp2_with fail
  generalize (U2.alloc (.cells #[.string p, .string q] 26)) = U3 at *
  generalize U2.heap.size = b4 at *
  refine (CB.out U3).mono ?_
  rintro e U5 ⟨rfl, hb⟩
  replace B := aB B hb
  replace Ja := aJ Ja hb
  clear hb
  have hb := nB U5 (.cells #[.string p2, .string q2] 26)
  have Jb : Hid (IHolds (U5.alloc (.cells #[.string p2, .string q2] 26)) U5.heap.size 26 [.string p2, .string q2]) := IHolds.new _ _ _
  have ne_a_b := nJ Ja
  have ge_b : Hid (w.heap.size ≤ U5.heap.size) := B.out.size
  replace B := aB B hb
  replace Ja := aJ Ja hb
  clear hb
  obtain ⟨za_0, za_1⟩ := cJ Ja
  go_wp2_with fail
  clear za_0 za_1
  generalize (U5.alloc (.cells #[.string p2, .string q2] 26)) = U6 at *
  generalize U5.heap.size = b7 at *
  refine (CR.out U6).mono ?_
  rintro e U8 ⟨rfl, hb⟩
  replace B := aB B hb
  replace Ja := aJ Ja hb
  replace Jb := aJ Jb hb
  clear hb
  have hb := nB U8 (.cells #[.string p3, .string q3] 26)
  have Jc : Hid (IHolds (U8.alloc (.cells #[.string p3, .string q3] 26)) U8.heap.size 26 [.string p3, .string q3]) := IHolds.new _ _ _
  have ne_a_c := nJ Ja
  have ne_b_c := nJ Jb
  have ge_c : Hid (w.heap.size ≤ U8.heap.size) := B.out.size
  replace B := aB B hb
  replace Ja := aJ Ja hb
  replace Jb := aJ Jb hb
  clear hb
  obtain ⟨za_0, za_1⟩ := cJ Ja
  go_wp2_with fail
  clear za_0 za_1
  generalize (U8.alloc (.cells #[.string p3, .string q3] 26)) = U9 at *
  generalize U8.heap.size = b10 at *
  refine (CD.out U9).mono ?_
  rintro e U11 ⟨rfl, hb⟩
  replace B := aB B hb
  replace Ja := aJ Ja hb
  replace Jb := aJ Jb hb
  replace Jc := aJ Jc hb
  clear hb
  obtain ⟨zc_0, zc_1⟩ := cJ Jc
  go_wp2_with fail
  clear zc_0 zc_1
  refine (CE.out U11).mono ?_
  rintro e U12 ⟨rfl, hb⟩
  replace B := aB B hb
  replace Ja := aJ Ja hb
  replace Jb := aJ Jb hb
  replace Jc := aJ Jc hb
  clear hb
  go_wp2_with fail
  refine (CS.out U12).mono ?_
  rintro e U13 ⟨rfl, hb⟩
  replace B := aB B hb
  replace Ja := aJ Ja hb
  replace Jb := aJ Jb hb
  replace Jc := aJ Jc hb
  clear hb
  go_wp2_with fail
  refine (CW.out U13).mono ?_
  rintro e U14 ⟨rfl, hb⟩
  replace B := aB B hb
  replace Ja := aJ Ja hb
  replace Jb := aJ Jb hb
  replace Jc := aJ Jc hb
  clear hb
  obtain ⟨za_0, za_1⟩ := cJ Ja
  obtain ⟨zb_0, zb_1⟩ := cJ Jb
  go_wp2_with fail
  all_goals first | (go_ret; exact ⟨rfl, B.out⟩) | (exfalso; have h := hE.out; clear CP CA CB CR CD CE CS CW; simp_all; done) | (go_ret; refine ⟨?_, B.out⟩; have h := hE.out; clear CP CA CB CR CD CE CS CW B Ja Jb Jc hE; simp_all; done)
set_option maxRecDepth 100000 in
set_option maxHeartbeats 2000000 in
theorem counts_none1 {w : World} {z : Int} {s x y n : ByteArray} (CL : Hid (∀ W, Calls Try.prog 11 #[] W fun e w' => e = .returned (.bool true) ∧ Below W.heap.size W w')) (CP : Hid (∀ W, Calls Try.prog 5 #[.int .i64 z, .string s] W fun e w' => e = .returned (.tuple #[.string ⟨#[]⟩, .int .i64 1]) ∧ Below W.heap.size W w')) (CA : Hid (∀ W, Calls Try.prog 6 #[.int .i64 z, .string ⟨#[]⟩, .string x, .string n] W fun e w' => e = .returned (.tuple #[.agg #[.string ⟨#[]⟩, .string ⟨#[]⟩], .int .i64 1]) ∧ Below W.heap.size W w')) :
    Calls Try.prog 4 #[.int .i64 z, .string s, .string x, .string y, .string n] w fun e w' => e = .returned (.bool true) ∧ Below w.heap.size w w' := by
  have B : Hid (Below w.heap.size w w) := Below.refl _ _
  go_enter Try.func4, Try.ntmps4
  go_wp2_with fail
  refine (CL.out w).mono ?_
  rintro e U1 ⟨rfl, hb⟩
  replace B := aB B hb
  clear hb
  go_wp2_with fail
  refine (CP.out U1).mono ?_
  rintro e U2 ⟨rfl, hb⟩
  replace B := aB B hb
  clear hb
  go_wp2_with fail
  refine (CA.out U2).mono ?_
  rintro e U3 ⟨rfl, hb⟩
  replace B := aB B hb
  clear hb
  have hb := nB U3 (.cells #[.string ⟨#[]⟩, .string ⟨#[]⟩] 26)
  have Ja : Hid (IHolds (U3.alloc (.cells #[.string ⟨#[]⟩, .string ⟨#[]⟩] 26)) U3.heap.size 26 [.string ⟨#[]⟩, .string ⟨#[]⟩]) := IHolds.new _ _ _
  have ge_a : Hid (w.heap.size ≤ U3.heap.size) := B.out.size
  replace B := aB B hb
  clear hb
  go_wp2_with fail
  generalize (U3.alloc (.cells #[.string ⟨#[]⟩, .string ⟨#[]⟩] 26)) = U4 at *
  generalize U3.heap.size = b5 at *
  go_ret
  exact ⟨rfl, B.out⟩
set_option maxRecDepth 100000 in
set_option maxHeartbeats 2000000 in
theorem counts_none6 {w : World} {z : Int} {s x y n : ByteArray} (CL : Hid (∀ W, Calls Try.prog 11 #[] W fun e w' => e = .returned (.bool true) ∧ Below W.heap.size W w')) (CP : Hid (∀ W, Calls Try.prog 5 #[.int .i64 z, .string s] W fun e w' => e = .returned (.tuple #[.string ⟨#[]⟩, .int .i64 6]) ∧ Below W.heap.size W w')) (CA : Hid (∀ W, Calls Try.prog 6 #[.int .i64 z, .string ⟨#[]⟩, .string x, .string n] W fun e w' => e = .returned (.tuple #[.agg #[.string ⟨#[]⟩, .string ⟨#[]⟩], .int .i64 7]) ∧ Below W.heap.size W w')) :
    Calls Try.prog 4 #[.int .i64 z, .string s, .string x, .string y, .string n] w fun e w' => e = .returned (.bool true) ∧ Below w.heap.size w w' := by
  have B : Hid (Below w.heap.size w w) := Below.refl _ _
  go_enter Try.func4, Try.ntmps4
  go_wp2_with fail
  refine (CL.out w).mono ?_
  rintro e U1 ⟨rfl, hb⟩
  replace B := aB B hb
  clear hb
  go_wp2_with fail
  refine (CP.out U1).mono ?_
  rintro e U2 ⟨rfl, hb⟩
  replace B := aB B hb
  clear hb
  go_wp2_with fail
  refine (CA.out U2).mono ?_
  rintro e U3 ⟨rfl, hb⟩
  replace B := aB B hb
  clear hb
  have hb := nB U3 (.cells #[.string ⟨#[]⟩, .string ⟨#[]⟩] 26)
  have Ja : Hid (IHolds (U3.alloc (.cells #[.string ⟨#[]⟩, .string ⟨#[]⟩] 26)) U3.heap.size 26 [.string ⟨#[]⟩, .string ⟨#[]⟩]) := IHolds.new _ _ _
  have ge_a : Hid (w.heap.size ≤ U3.heap.size) := B.out.size
  replace B := aB B hb
  clear hb
  go_wp2_with fail
  generalize (U3.alloc (.cells #[.string ⟨#[]⟩, .string ⟨#[]⟩] 26)) = U4 at *
  generalize U3.heap.size = b5 at *
  go_ret
  exact ⟨rfl, B.out⟩
set_option maxRecDepth 100000 in
set_option maxHeartbeats 2000000 in
theorem counts_bad {w : World} {z : Int} {s x y n key : ByteArray} (CL : Hid (∀ W, Calls Try.prog 11 #[] W fun e w' => e = .returned (.bool true) ∧ Below W.heap.size W w')) (CP : Hid (∀ W, Calls Try.prog 5 #[.int .i64 z, .string s] W fun e w' => e = .returned (.tuple #[.string key, .int .i64 0]) ∧ Below W.heap.size W w')) (CA : Hid (∀ W, Calls Try.prog 6 #[.int .i64 z, .string key, .string x, .string n] W fun e w' => e = .returned (.tuple #[.agg #[.string ⟨#[]⟩, .string ⟨#[]⟩], .int .i64 6]) ∧ Below W.heap.size W w')) :
    Calls Try.prog 4 #[.int .i64 z, .string s, .string x, .string y, .string n] w fun e w' => e = .returned (.bool true) ∧ Below w.heap.size w w' := by
  have B : Hid (Below w.heap.size w w) := Below.refl _ _
  go_enter Try.func4, Try.ntmps4
  go_wp2_with fail
  refine (CL.out w).mono ?_
  rintro e U1 ⟨rfl, hb⟩
  replace B := aB B hb
  clear hb
  go_wp2_with fail
  refine (CP.out U1).mono ?_
  rintro e U2 ⟨rfl, hb⟩
  replace B := aB B hb
  clear hb
  go_wp2_with fail
  refine (CA.out U2).mono ?_
  rintro e U3 ⟨rfl, hb⟩
  replace B := aB B hb
  clear hb
  have hb := nB U3 (.cells #[.string ⟨#[]⟩, .string ⟨#[]⟩] 26)
  have Ja : Hid (IHolds (U3.alloc (.cells #[.string ⟨#[]⟩, .string ⟨#[]⟩] 26)) U3.heap.size 26 [.string ⟨#[]⟩, .string ⟨#[]⟩]) := IHolds.new _ _ _
  have ge_a : Hid (w.heap.size ≤ U3.heap.size) := B.out.size
  replace B := aB B hb
  clear hb
  go_wp2_with fail
  generalize (U3.alloc (.cells #[.string ⟨#[]⟩, .string ⟨#[]⟩] 26)) = U4 at *
  generalize U3.heap.size = b5 at *
  go_ret
  exact ⟨rfl, B.out⟩
set_option maxRecDepth 100000 in
set_option maxHeartbeats 2000000 in
theorem counts_zero {w : World} {z : Int} {s x y n key p q t : ByteArray} (CL : Hid (∀ W, Calls Try.prog 11 #[] W fun e w' => e = .returned (.bool true) ∧ Below W.heap.size W w')) (CP : Hid (∀ W, Calls Try.prog 5 #[.int .i64 z, .string s] W fun e w' => e = .returned (.tuple #[.string key, .int .i64 0]) ∧ Below W.heap.size W w')) (CA : Hid (∀ W, Calls Try.prog 6 #[.int .i64 z, .string key, .string x, .string n] W fun e w' => e = .returned (.tuple #[.agg #[.string p, .string q], .int .i64 0]) ∧ Below W.heap.size W w')) (CI : Hid (∀ W, Calls Try.prog 12 #[.int .i64 z, .string n] W fun e w' => e = .returned (.tuple #[.string t, .int .i64 5]) ∧ Below W.heap.size W w')) :
    Calls Try.prog 4 #[.int .i64 z, .string s, .string x, .string y, .string n] w fun e w' => e = .returned (.bool true) ∧ Below w.heap.size w w' := by
  have B : Hid (Below w.heap.size w w) := Below.refl _ _
  go_enter Try.func4, Try.ntmps4
  go_wp2_with fail
  refine (CL.out w).mono ?_
  rintro e U1 ⟨rfl, hb⟩
  replace B := aB B hb
  clear hb
  go_wp2_with fail
  refine (CP.out U1).mono ?_
  rintro e U2 ⟨rfl, hb⟩
  replace B := aB B hb
  clear hb
  go_wp2_with fail
  refine (CA.out U2).mono ?_
  rintro e U3 ⟨rfl, hb⟩
  replace B := aB B hb
  clear hb
  have hb := nB U3 (.cells #[.string p, .string q] 26)
  have Ja : Hid (IHolds (U3.alloc (.cells #[.string p, .string q] 26)) U3.heap.size 26 [.string p, .string q]) := IHolds.new _ _ _
  have ge_a : Hid (w.heap.size ≤ U3.heap.size) := B.out.size
  replace B := aB B hb
  clear hb
  go_wp2_with fail
  generalize (U3.alloc (.cells #[.string p, .string q] 26)) = U4 at *
  generalize U3.heap.size = b5 at *
  refine (CI.out U4).mono ?_
  rintro e U6 ⟨rfl, hb⟩
  replace B := aB B hb
  replace Ja := aJ Ja hb
  clear hb
  go_wp2_with fail
  go_ret
  exact ⟨rfl, B.out⟩
set_option maxRecDepth 100000 in
set_option maxHeartbeats 2000000 in
theorem counts_noy {w : World} {z : Int} {s x y n key p q t : ByteArray} (CL : Hid (∀ W, Calls Try.prog 11 #[] W fun e w' => e = .returned (.bool true) ∧ Below W.heap.size W w')) (CP : Hid (∀ W, Calls Try.prog 5 #[.int .i64 z, .string s] W fun e w' => e = .returned (.tuple #[.string key, .int .i64 0]) ∧ Below W.heap.size W w')) (CA : Hid (∀ W, Calls Try.prog 6 #[.int .i64 z, .string key, .string x, .string n] W fun e w' => e = .returned (.tuple #[.agg #[.string p, .string q], .int .i64 0]) ∧ Below W.heap.size W w')) (CI : Hid (∀ W, Calls Try.prog 12 #[.int .i64 z, .string n] W fun e w' => e = .returned (.tuple #[.string t, .int .i64 0]) ∧ Below W.heap.size W w')) (CY : Hid (∀ W, Calls Try.prog 13 #[.int .i64 z, .string y] W fun e w' => e = .returned (.bool false) ∧ Below W.heap.size W w')) :
    Calls Try.prog 4 #[.int .i64 z, .string s, .string x, .string y, .string n] w fun e w' => e = .returned (.bool true) ∧ Below w.heap.size w w' := by
  have B : Hid (Below w.heap.size w w) := Below.refl _ _
  go_enter Try.func4, Try.ntmps4
  go_wp2_with fail
  refine (CL.out w).mono ?_
  rintro e U1 ⟨rfl, hb⟩
  replace B := aB B hb
  clear hb
  go_wp2_with fail
  refine (CP.out U1).mono ?_
  rintro e U2 ⟨rfl, hb⟩
  replace B := aB B hb
  clear hb
  go_wp2_with fail
  refine (CA.out U2).mono ?_
  rintro e U3 ⟨rfl, hb⟩
  replace B := aB B hb
  clear hb
  have hb := nB U3 (.cells #[.string p, .string q] 26)
  have Ja : Hid (IHolds (U3.alloc (.cells #[.string p, .string q] 26)) U3.heap.size 26 [.string p, .string q]) := IHolds.new _ _ _
  have ge_a : Hid (w.heap.size ≤ U3.heap.size) := B.out.size
  replace B := aB B hb
  clear hb
  go_wp2_with fail
  generalize (U3.alloc (.cells #[.string p, .string q] 26)) = U4 at *
  generalize U3.heap.size = b5 at *
  refine (CI.out U4).mono ?_
  rintro e U6 ⟨rfl, hb⟩
  replace B := aB B hb
  replace Ja := aJ Ja hb
  clear hb
  go_wp2_with fail
  refine (CY.out U6).mono ?_
  rintro e U7 ⟨rfl, hb⟩
  replace B := aB B hb
  replace Ja := aJ Ja hb
  clear hb
  go_wp2_with fail
  go_ret
  exact ⟨rfl, B.out⟩
set_option maxRecDepth 100000 in
set_option maxHeartbeats 2000000 in
theorem counts_ok {w : World} {z : Int} {s x y n key p q t k : ByteArray} {r1 r2 r3 r4 : ByteArray} (CL : Hid (∀ W, Calls Try.prog 11 #[] W fun e w' => e = .returned (.bool true) ∧ Below W.heap.size W w')) (CP : Hid (∀ W, Calls Try.prog 5 #[.int .i64 z, .string s] W fun e w' => e = .returned (.tuple #[.string key, .int .i64 0]) ∧ Below W.heap.size W w')) (CA : Hid (∀ W, Calls Try.prog 6 #[.int .i64 z, .string key, .string x, .string n] W fun e w' => e = .returned (.tuple #[.agg #[.string p, .string q], .int .i64 0]) ∧ Below W.heap.size W w')) (CI : Hid (∀ W, Calls Try.prog 12 #[.int .i64 z, .string n] W fun e w' => e = .returned (.tuple #[.string t, .int .i64 0]) ∧ Below W.heap.size W w')) (CY : Hid (∀ W, Calls Try.prog 13 #[.int .i64 z, .string y] W fun e w' => e = .returned (.bool true) ∧ Below W.heap.size W w')) (C1 : Hid (∀ W, Calls Try.prog 14 #[.int .i64 z, .string s, .string n] W fun e w' => e = .returned (.tuple #[.string r1, .int .i64 0]) ∧ Below W.heap.size W w')) (C2 : Hid (∀ W, Calls Try.prog 15 #[.int .i64 z, .string r1, .string x] W fun e w' => e = .returned (.tuple #[.string r2, .int .i64 0]) ∧ Below W.heap.size W w')) (C3 : Hid (∀ W, Calls Try.prog 16 #[.int .i64 z, .string r2, .string y] W fun e w' => e = .returned (.tuple #[.string r3, .int .i64 0]) ∧ Below W.heap.size W w')) (C4 : Hid (∀ W, Calls Try.prog 14 #[.int .i64 z, .string r3, .string t] W fun e w' => e = .returned (.tuple #[.string r4, .int .i64 0]) ∧ Below W.heap.size W w')) (CQ : Hid (∀ W, Calls Try.prog 5 #[.int .i64 z, .string r4] W fun e w' => e = .returned (.tuple #[.string k, .int .i64 0]) ∧ Below W.heap.size W w')) (CB : Hid (∀ W, Calls Try.prog 6 #[.int .i64 z, .string k, .string y, .string n] W fun e w' => e = .returned (.tuple #[.agg #[.string p, .string q], .int .i64 0]) ∧ Below W.heap.size W w')) (hE : Hid (x.toList = y.toList ↔ k.toList = key.toList)) :
    Calls Try.prog 4 #[.int .i64 z, .string s, .string x, .string y, .string n] w fun e w' => e = .returned (.bool true) ∧ Below w.heap.size w w' := by
  have B : Hid (Below w.heap.size w w) := Below.refl _ _
  go_enter Try.func4, Try.ntmps4
  go_wp2_with fail
  refine (CL.out w).mono ?_
  rintro e U1 ⟨rfl, hb⟩
  replace B := aB B hb
  clear hb
  go_wp2_with fail
  refine (CP.out U1).mono ?_
  rintro e U2 ⟨rfl, hb⟩
  replace B := aB B hb
  clear hb
  go_wp2_with fail
  refine (CA.out U2).mono ?_
  rintro e U3 ⟨rfl, hb⟩
  replace B := aB B hb
  clear hb
  have hb := nB U3 (.cells #[.string p, .string q] 26)
  have Ja : Hid (IHolds (U3.alloc (.cells #[.string p, .string q] 26)) U3.heap.size 26 [.string p, .string q]) := IHolds.new _ _ _
  have ge_a : Hid (w.heap.size ≤ U3.heap.size) := B.out.size
  replace B := aB B hb
  clear hb
  go_wp2_with fail
  generalize (U3.alloc (.cells #[.string p, .string q] 26)) = U4 at *
  generalize U3.heap.size = b5 at *
  refine (CI.out U4).mono ?_
  rintro e U6 ⟨rfl, hb⟩
  replace B := aB B hb
  replace Ja := aJ Ja hb
  clear hb
  go_wp2_with fail
  refine (CY.out U6).mono ?_
  rintro e U7 ⟨rfl, hb⟩
  replace B := aB B hb
  replace Ja := aJ Ja hb
  clear hb
  go_wp2_with fail
  refine (C1.out U7).mono ?_
  rintro e U8 ⟨rfl, hb⟩
  replace B := aB B hb
  replace Ja := aJ Ja hb
  clear hb
  go_wp2_with fail
  refine (C2.out U8).mono ?_
  rintro e U9 ⟨rfl, hb⟩
  replace B := aB B hb
  replace Ja := aJ Ja hb
  clear hb
  go_wp2_with fail
  refine (C3.out U9).mono ?_
  rintro e U10 ⟨rfl, hb⟩
  replace B := aB B hb
  replace Ja := aJ Ja hb
  clear hb
  go_wp2_with fail
  refine (C4.out U10).mono ?_
  rintro e U11 ⟨rfl, hb⟩
  replace B := aB B hb
  replace Ja := aJ Ja hb
  clear hb
  go_wp2_with fail
  refine (CQ.out U11).mono ?_
  rintro e U12 ⟨rfl, hb⟩
  replace B := aB B hb
  replace Ja := aJ Ja hb
  clear hb
  go_wp2_with fail
  refine (CB.out U12).mono ?_
  rintro e U13 ⟨rfl, hb⟩
  replace B := aB B hb
  replace Ja := aJ Ja hb
  clear hb
  have hb := nB U13 (.cells #[.string p, .string q] 26)
  replace B := aB B hb
  replace Ja := aJ Ja hb
  clear hb
  obtain ⟨za_0, za_1⟩ := cJ Ja
  go_wp2_with fail
  all_goals first | (go_ret; exact ⟨rfl, B.out⟩) | (exfalso; have h := hE.out; clear CL CP CA CI CY C1 C2 C3 C4 CQ CB; simp_all; done) | (go_ret; refine ⟨?_, B.out⟩; have h := hE.out; clear CL CP CA CI CY C1 C2 C3 C4 CQ CB B Ja hE; simp_all; rw [Bool.eq_iff_iff]; simpa using h)
end Go.Proofs.Ytghkjjhnokjjiaa
