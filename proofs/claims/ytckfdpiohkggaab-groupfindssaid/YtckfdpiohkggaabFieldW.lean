/- The walk of GroupField. -/
import Derived.Test.YtckfdpiohkggaabAid
set_option linter.unusedSimpArgs false
set_option linter.unusedVariables false
namespace Go.Proofs.Ytckfdpiohkggaab
open Go.RowKit Go.Deep Go.PlainAid

set_option maxRecDepth 100000 in
set_option maxHeartbeats 1000000 in
theorem field_none {w : World} {z : Int} {a b c  : ByteArray} {S : Nat}
    (Sa : Hid (∀ W, Calls Try.prog 6 #[.int .i64 z, .string a] W fun e w' => e = .returned (.bool false) ∧ Below W.heap.size W w'))
    (SZ : Hid (∀ W, Calls Try.prog 7 #[.int .i64 z] W fun e w' => e = .returned (.tuple #[.int .i64 0, .int .i64 0, .int .i64 1]) ∧ Below W.heap.size W w'))
    (N0 : Hid (∀ W, Calls Try.prog 8 #[.int .i64 z, .int .i64 0] W fun e w' => e = .returned (.tuple #[.string ⟨#[]⟩, .int .i64 1]) ∧ Below W.heap.size W w')) :
    Calls Try.prog 3 #[.int .i64 z, .string a, .string b, .string c] w fun e w' => e = .returned (.bool true) ∧ Below w.heap.size w w' := by
  have B : Hid (Below w.heap.size w w) := Below.refl _ _
  go_enter Try.func3, Try.ntmps3
  go_wp2_with fail
  refine (Sa.out w).mono ?_
  rintro e V0 ⟨rfl, hb⟩
  replace B := aB B hb
  clear hb
  go_wp2_with fail
  refine (SZ.out V0).mono ?_
  rintro e V1 ⟨rfl, hb⟩
  replace B := aB B hb
  clear hb
  go_wp2_with fail
  refine (N0.out V1).mono ?_
  rintro e V2 ⟨rfl, hb⟩
  replace B := aB B hb
  clear hb
  go_wp2_with fail
  go_ret
  exact ⟨rfl, B.out⟩
set_option maxRecDepth 100000 in
set_option maxHeartbeats 1000000 in
theorem field_bad_a {w : World} {z : Int} {a b c z0 : ByteArray} {S : Nat}
    (Sa : Hid (∀ W, Calls Try.prog 6 #[.int .i64 z, .string a] W fun e w' => e = .returned (.bool false) ∧ Below W.heap.size W w'))
    (SZ : Hid (∀ W, Calls Try.prog 7 #[.int .i64 z] W fun e w' => e = .returned (.tuple #[.int .i64 (S : Int), .int .i64 (S : Int), .int .i64 0]) ∧ Below W.heap.size W w'))
    (N0 : Hid (∀ W, Calls Try.prog 8 #[.int .i64 z, .int .i64 0] W fun e w' => e = .returned (.tuple #[.string z0, .int .i64 0]) ∧ Below W.heap.size W w'))
    (hS : (0 : Int) < (S : Int))
    (hz : (z0.size : Int) = (S : Int))
    (Sz : Hid (∀ W, Calls Try.prog 6 #[.int .i64 z, .string z0] W fun e w' => e = .returned (.bool true) ∧ Below W.heap.size W w')) :
    Calls Try.prog 3 #[.int .i64 z, .string a, .string b, .string c] w fun e w' => e = .returned (.bool true) ∧ Below w.heap.size w w' := by
  have B : Hid (Below w.heap.size w w) := Below.refl _ _
  go_enter Try.func3, Try.ntmps3
  go_wp2_with fail
  refine (Sa.out w).mono ?_
  rintro e V0 ⟨rfl, hb⟩
  replace B := aB B hb
  clear hb
  go_wp2_with fail
  refine (SZ.out V0).mono ?_
  rintro e V1 ⟨rfl, hb⟩
  replace B := aB B hb
  clear hb
  go_wp2_with fail
  refine (N0.out V1).mono ?_
  rintro e V2 ⟨rfl, hb⟩
  replace B := aB B hb
  clear hb
  go_wp2_with fail
  refine (Sz.out V2).mono ?_
  rintro e V3 ⟨rfl, hb⟩
  replace B := aB B hb
  clear hb
  go_wp2_with fail
  go_ret
  exact ⟨rfl, B.out⟩
set_option maxRecDepth 100000 in
set_option maxHeartbeats 1000000 in
theorem field_bad_b {w : World} {z : Int} {a b c z0 : ByteArray} {S : Nat}
    (Sa : Hid (∀ W, Calls Try.prog 6 #[.int .i64 z, .string a] W fun e w' => e = .returned (.bool true) ∧ Below W.heap.size W w'))
    (Sb : Hid (∀ W, Calls Try.prog 6 #[.int .i64 z, .string b] W fun e w' => e = .returned (.bool false) ∧ Below W.heap.size W w'))
    (SZ : Hid (∀ W, Calls Try.prog 7 #[.int .i64 z] W fun e w' => e = .returned (.tuple #[.int .i64 (S : Int), .int .i64 (S : Int), .int .i64 0]) ∧ Below W.heap.size W w'))
    (N0 : Hid (∀ W, Calls Try.prog 8 #[.int .i64 z, .int .i64 0] W fun e w' => e = .returned (.tuple #[.string z0, .int .i64 0]) ∧ Below W.heap.size W w'))
    (hS : (0 : Int) < (S : Int))
    (hz : (z0.size : Int) = (S : Int))
    (Sz : Hid (∀ W, Calls Try.prog 6 #[.int .i64 z, .string z0] W fun e w' => e = .returned (.bool true) ∧ Below W.heap.size W w')) :
    Calls Try.prog 3 #[.int .i64 z, .string a, .string b, .string c] w fun e w' => e = .returned (.bool true) ∧ Below w.heap.size w w' := by
  have B : Hid (Below w.heap.size w w) := Below.refl _ _
  go_enter Try.func3, Try.ntmps3
  go_wp2_with fail
  refine (Sa.out w).mono ?_
  rintro e V0 ⟨rfl, hb⟩
  replace B := aB B hb
  clear hb
  go_wp2_with fail
  refine (Sb.out V0).mono ?_
  rintro e V1 ⟨rfl, hb⟩
  replace B := aB B hb
  clear hb
  go_wp2_with fail
  refine (SZ.out V1).mono ?_
  rintro e V2 ⟨rfl, hb⟩
  replace B := aB B hb
  clear hb
  go_wp2_with fail
  refine (N0.out V2).mono ?_
  rintro e V3 ⟨rfl, hb⟩
  replace B := aB B hb
  clear hb
  go_wp2_with fail
  refine (Sz.out V3).mono ?_
  rintro e V4 ⟨rfl, hb⟩
  replace B := aB B hb
  clear hb
  go_wp2_with fail
  go_ret
  exact ⟨rfl, B.out⟩
set_option maxRecDepth 100000 in
set_option maxHeartbeats 1000000 in
theorem field_bad_c {w : World} {z : Int} {a b c z0 : ByteArray} {S : Nat}
    (Sa : Hid (∀ W, Calls Try.prog 6 #[.int .i64 z, .string a] W fun e w' => e = .returned (.bool true) ∧ Below W.heap.size W w'))
    (Sb : Hid (∀ W, Calls Try.prog 6 #[.int .i64 z, .string b] W fun e w' => e = .returned (.bool true) ∧ Below W.heap.size W w'))
    (Sc : Hid (∀ W, Calls Try.prog 6 #[.int .i64 z, .string c] W fun e w' => e = .returned (.bool false) ∧ Below W.heap.size W w'))
    (SZ : Hid (∀ W, Calls Try.prog 7 #[.int .i64 z] W fun e w' => e = .returned (.tuple #[.int .i64 (S : Int), .int .i64 (S : Int), .int .i64 0]) ∧ Below W.heap.size W w'))
    (N0 : Hid (∀ W, Calls Try.prog 8 #[.int .i64 z, .int .i64 0] W fun e w' => e = .returned (.tuple #[.string z0, .int .i64 0]) ∧ Below W.heap.size W w'))
    (hS : (0 : Int) < (S : Int))
    (hz : (z0.size : Int) = (S : Int))
    (Sz : Hid (∀ W, Calls Try.prog 6 #[.int .i64 z, .string z0] W fun e w' => e = .returned (.bool true) ∧ Below W.heap.size W w')) :
    Calls Try.prog 3 #[.int .i64 z, .string a, .string b, .string c] w fun e w' => e = .returned (.bool true) ∧ Below w.heap.size w w' := by
  have B : Hid (Below w.heap.size w w) := Below.refl _ _
  go_enter Try.func3, Try.ntmps3
  go_wp2_with fail
  refine (Sa.out w).mono ?_
  rintro e V0 ⟨rfl, hb⟩
  replace B := aB B hb
  clear hb
  go_wp2_with fail
  refine (Sb.out V0).mono ?_
  rintro e V1 ⟨rfl, hb⟩
  replace B := aB B hb
  clear hb
  go_wp2_with fail
  refine (Sc.out V1).mono ?_
  rintro e V2 ⟨rfl, hb⟩
  replace B := aB B hb
  clear hb
  go_wp2_with fail
  refine (SZ.out V2).mono ?_
  rintro e V3 ⟨rfl, hb⟩
  replace B := aB B hb
  clear hb
  go_wp2_with fail
  refine (N0.out V3).mono ?_
  rintro e V4 ⟨rfl, hb⟩
  replace B := aB B hb
  clear hb
  go_wp2_with fail
  refine (Sz.out V4).mono ?_
  rintro e V5 ⟨rfl, hb⟩
  replace B := aB B hb
  clear hb
  go_wp2_with fail
  go_ret
  exact ⟨rfl, B.out⟩
set_option maxRecDepth 100000 in
set_option maxHeartbeats 1000000 in
theorem field_zero {w : World} {z : Int} {a b c n1 m1 s1 bc mm mbc d mac one : ByteArray} {S : Nat}
    (Sa : Hid (∀ W, Calls Try.prog 6 #[.int .i64 z, .string a] W fun e w' => e = .returned (.bool true) ∧ Below W.heap.size W w'))
    (Sb : Hid (∀ W, Calls Try.prog 6 #[.int .i64 z, .string b] W fun e w' => e = .returned (.bool true) ∧ Below W.heap.size W w'))
    (Sc : Hid (∀ W, Calls Try.prog 6 #[.int .i64 z, .string c] W fun e w' => e = .returned (.bool true) ∧ Below W.heap.size W w'))
    (K1 : Hid (∀ W, Calls Try.prog 9 #[.int .i64 z, .string a, .string b] W fun e w' => e = .returned (.string n1) ∧ Below W.heap.size W w'))
    (K2 : Hid (∀ W, Calls Try.prog 9 #[.int .i64 z, .string b, .string a] W fun e w' => e = .returned (.string n1) ∧ Below W.heap.size W w'))
    (K3 : Hid (∀ W, Calls Try.prog 10 #[.int .i64 z, .string a, .string b] W fun e w' => e = .returned (.string m1) ∧ Below W.heap.size W w'))
    (K4 : Hid (∀ W, Calls Try.prog 10 #[.int .i64 z, .string b, .string a] W fun e w' => e = .returned (.string m1) ∧ Below W.heap.size W w'))
    (K5 : Hid (∀ W, Calls Try.prog 9 #[.int .i64 z, .string n1, .string c] W fun e w' => e = .returned (.string s1) ∧ Below W.heap.size W w'))
    (K6 : Hid (∀ W, Calls Try.prog 9 #[.int .i64 z, .string b, .string c] W fun e w' => e = .returned (.string bc) ∧ Below W.heap.size W w'))
    (K7 : Hid (∀ W, Calls Try.prog 9 #[.int .i64 z, .string a, .string bc] W fun e w' => e = .returned (.string s1) ∧ Below W.heap.size W w'))
    (K8 : Hid (∀ W, Calls Try.prog 10 #[.int .i64 z, .string m1, .string c] W fun e w' => e = .returned (.string mm) ∧ Below W.heap.size W w'))
    (K9 : Hid (∀ W, Calls Try.prog 10 #[.int .i64 z, .string b, .string c] W fun e w' => e = .returned (.string mbc) ∧ Below W.heap.size W w'))
    (K10 : Hid (∀ W, Calls Try.prog 10 #[.int .i64 z, .string a, .string mbc] W fun e w' => e = .returned (.string mm) ∧ Below W.heap.size W w'))
    (K11 : Hid (∀ W, Calls Try.prog 10 #[.int .i64 z, .string a, .string bc] W fun e w' => e = .returned (.string d) ∧ Below W.heap.size W w'))
    (K12 : Hid (∀ W, Calls Try.prog 10 #[.int .i64 z, .string a, .string c] W fun e w' => e = .returned (.string mac) ∧ Below W.heap.size W w'))
    (K13 : Hid (∀ W, Calls Try.prog 9 #[.int .i64 z, .string m1, .string mac] W fun e w' => e = .returned (.string d) ∧ Below W.heap.size W w'))
    (K14 : Hid (∀ W, Calls Try.prog 11 #[.int .i64 z, .string n1, .string b] W fun e w' => e = .returned (.tuple #[.string a, .int .i64 0]) ∧ Below W.heap.size W w'))
    (N1 : Hid (∀ W, Calls Try.prog 8 #[.int .i64 z, .int .i64 1] W fun e w' => e = .returned (.tuple #[.string one, .int .i64 0]) ∧ Below W.heap.size W w'))
    (IV : Hid (∀ W, Calls Try.prog 12 #[.int .i64 z, .string a] W fun e w' => e = .returned (.tuple #[.string ⟨#[]⟩, .int .i64 5]) ∧ Below W.heap.size W w'))
    (N0 : Hid (∀ W, Calls Try.prog 8 #[.int .i64 z, .int .i64 0] W fun e w' => e = .returned (.tuple #[.string a, .int .i64 0]) ∧ Below W.heap.size W w')) :
    Calls Try.prog 3 #[.int .i64 z, .string a, .string b, .string c] w fun e w' => e = .returned (.bool true) ∧ Below w.heap.size w w' := by
  have B : Hid (Below w.heap.size w w) := Below.refl _ _
  go_enter Try.func3, Try.ntmps3
  go_wp2_with fail
  refine (Sa.out w).mono ?_
  rintro e V0 ⟨rfl, hb⟩
  replace B := aB B hb
  clear hb
  go_wp2_with fail
  refine (Sb.out V0).mono ?_
  rintro e V1 ⟨rfl, hb⟩
  replace B := aB B hb
  clear hb
  go_wp2_with fail
  refine (Sc.out V1).mono ?_
  rintro e V2 ⟨rfl, hb⟩
  replace B := aB B hb
  clear hb
  go_wp2_with fail
  refine (K1.out V2).mono ?_
  rintro e V3 ⟨rfl, hb⟩
  replace B := aB B hb
  clear hb
  go_wp2_with fail
  refine (K2.out V3).mono ?_
  rintro e V4 ⟨rfl, hb⟩
  replace B := aB B hb
  clear hb
  go_wp2_with fail
  refine (K3.out V4).mono ?_
  rintro e V5 ⟨rfl, hb⟩
  replace B := aB B hb
  clear hb
  go_wp2_with fail
  refine (K4.out V5).mono ?_
  rintro e V6 ⟨rfl, hb⟩
  replace B := aB B hb
  clear hb
  go_wp2_with fail
  refine (K1.out V6).mono ?_
  rintro e V7 ⟨rfl, hb⟩
  replace B := aB B hb
  clear hb
  go_wp2_with fail
  refine (K5.out V7).mono ?_
  rintro e V8 ⟨rfl, hb⟩
  replace B := aB B hb
  clear hb
  go_wp2_with fail
  refine (K6.out V8).mono ?_
  rintro e V9 ⟨rfl, hb⟩
  replace B := aB B hb
  clear hb
  go_wp2_with fail
  refine (K7.out V9).mono ?_
  rintro e V10 ⟨rfl, hb⟩
  replace B := aB B hb
  clear hb
  go_wp2_with fail
  refine (K3.out V10).mono ?_
  rintro e V11 ⟨rfl, hb⟩
  replace B := aB B hb
  clear hb
  go_wp2_with fail
  refine (K8.out V11).mono ?_
  rintro e V12 ⟨rfl, hb⟩
  replace B := aB B hb
  clear hb
  go_wp2_with fail
  refine (K9.out V12).mono ?_
  rintro e V13 ⟨rfl, hb⟩
  replace B := aB B hb
  clear hb
  go_wp2_with fail
  refine (K10.out V13).mono ?_
  rintro e V14 ⟨rfl, hb⟩
  replace B := aB B hb
  clear hb
  go_wp2_with fail
  refine (K6.out V14).mono ?_
  rintro e V15 ⟨rfl, hb⟩
  replace B := aB B hb
  clear hb
  go_wp2_with fail
  refine (K11.out V15).mono ?_
  rintro e V16 ⟨rfl, hb⟩
  replace B := aB B hb
  clear hb
  go_wp2_with fail
  refine (K3.out V16).mono ?_
  rintro e V17 ⟨rfl, hb⟩
  replace B := aB B hb
  clear hb
  go_wp2_with fail
  refine (K12.out V17).mono ?_
  rintro e V18 ⟨rfl, hb⟩
  replace B := aB B hb
  clear hb
  go_wp2_with fail
  refine (K13.out V18).mono ?_
  rintro e V19 ⟨rfl, hb⟩
  replace B := aB B hb
  clear hb
  go_wp2_with fail
  refine (K1.out V19).mono ?_
  rintro e V20 ⟨rfl, hb⟩
  replace B := aB B hb
  clear hb
  go_wp2_with fail
  refine (K14.out V20).mono ?_
  rintro e V21 ⟨rfl, hb⟩
  replace B := aB B hb
  clear hb
  go_wp2_with fail
  refine (N1.out V21).mono ?_
  rintro e V22 ⟨rfl, hb⟩
  replace B := aB B hb
  clear hb
  go_wp2_with fail
  refine (IV.out V22).mono ?_
  rintro e V23 ⟨rfl, hb⟩
  replace B := aB B hb
  clear hb
  go_wp2_with fail
  refine (N0.out V23).mono ?_
  rintro e V24 ⟨rfl, hb⟩
  replace B := aB B hb
  clear hb
  go_wp2_with fail
  go_ret
  exact ⟨rfl, B.out⟩
set_option maxRecDepth 100000 in
set_option maxHeartbeats 1000000 in
theorem field_ok {w : World} {z : Int} {a b c n1 m1 s1 bc mm mbc d mac one iv : ByteArray} {S : Nat}
    (Sa : Hid (∀ W, Calls Try.prog 6 #[.int .i64 z, .string a] W fun e w' => e = .returned (.bool true) ∧ Below W.heap.size W w'))
    (Sb : Hid (∀ W, Calls Try.prog 6 #[.int .i64 z, .string b] W fun e w' => e = .returned (.bool true) ∧ Below W.heap.size W w'))
    (Sc : Hid (∀ W, Calls Try.prog 6 #[.int .i64 z, .string c] W fun e w' => e = .returned (.bool true) ∧ Below W.heap.size W w'))
    (K1 : Hid (∀ W, Calls Try.prog 9 #[.int .i64 z, .string a, .string b] W fun e w' => e = .returned (.string n1) ∧ Below W.heap.size W w'))
    (K2 : Hid (∀ W, Calls Try.prog 9 #[.int .i64 z, .string b, .string a] W fun e w' => e = .returned (.string n1) ∧ Below W.heap.size W w'))
    (K3 : Hid (∀ W, Calls Try.prog 10 #[.int .i64 z, .string a, .string b] W fun e w' => e = .returned (.string m1) ∧ Below W.heap.size W w'))
    (K4 : Hid (∀ W, Calls Try.prog 10 #[.int .i64 z, .string b, .string a] W fun e w' => e = .returned (.string m1) ∧ Below W.heap.size W w'))
    (K5 : Hid (∀ W, Calls Try.prog 9 #[.int .i64 z, .string n1, .string c] W fun e w' => e = .returned (.string s1) ∧ Below W.heap.size W w'))
    (K6 : Hid (∀ W, Calls Try.prog 9 #[.int .i64 z, .string b, .string c] W fun e w' => e = .returned (.string bc) ∧ Below W.heap.size W w'))
    (K7 : Hid (∀ W, Calls Try.prog 9 #[.int .i64 z, .string a, .string bc] W fun e w' => e = .returned (.string s1) ∧ Below W.heap.size W w'))
    (K8 : Hid (∀ W, Calls Try.prog 10 #[.int .i64 z, .string m1, .string c] W fun e w' => e = .returned (.string mm) ∧ Below W.heap.size W w'))
    (K9 : Hid (∀ W, Calls Try.prog 10 #[.int .i64 z, .string b, .string c] W fun e w' => e = .returned (.string mbc) ∧ Below W.heap.size W w'))
    (K10 : Hid (∀ W, Calls Try.prog 10 #[.int .i64 z, .string a, .string mbc] W fun e w' => e = .returned (.string mm) ∧ Below W.heap.size W w'))
    (K11 : Hid (∀ W, Calls Try.prog 10 #[.int .i64 z, .string a, .string bc] W fun e w' => e = .returned (.string d) ∧ Below W.heap.size W w'))
    (K12 : Hid (∀ W, Calls Try.prog 10 #[.int .i64 z, .string a, .string c] W fun e w' => e = .returned (.string mac) ∧ Below W.heap.size W w'))
    (K13 : Hid (∀ W, Calls Try.prog 9 #[.int .i64 z, .string m1, .string mac] W fun e w' => e = .returned (.string d) ∧ Below W.heap.size W w'))
    (K14 : Hid (∀ W, Calls Try.prog 11 #[.int .i64 z, .string n1, .string b] W fun e w' => e = .returned (.tuple #[.string a, .int .i64 0]) ∧ Below W.heap.size W w'))
    (N1 : Hid (∀ W, Calls Try.prog 8 #[.int .i64 z, .int .i64 1] W fun e w' => e = .returned (.tuple #[.string one, .int .i64 0]) ∧ Below W.heap.size W w'))
    (IV : Hid (∀ W, Calls Try.prog 12 #[.int .i64 z, .string a] W fun e w' => e = .returned (.tuple #[.string iv, .int .i64 0]) ∧ Below W.heap.size W w'))
    (K15 : Hid (∀ W, Calls Try.prog 10 #[.int .i64 z, .string a, .string iv] W fun e w' => e = .returned (.string one) ∧ Below W.heap.size W w'))
    (h1 : one.toList.isEmpty = false) :
    Calls Try.prog 3 #[.int .i64 z, .string a, .string b, .string c] w fun e w' => e = .returned (.bool true) ∧ Below w.heap.size w w' := by
  have B : Hid (Below w.heap.size w w) := Below.refl _ _
  go_enter Try.func3, Try.ntmps3
  go_wp2_with fail
  refine (Sa.out w).mono ?_
  rintro e V0 ⟨rfl, hb⟩
  replace B := aB B hb
  clear hb
  go_wp2_with fail
  refine (Sb.out V0).mono ?_
  rintro e V1 ⟨rfl, hb⟩
  replace B := aB B hb
  clear hb
  go_wp2_with fail
  refine (Sc.out V1).mono ?_
  rintro e V2 ⟨rfl, hb⟩
  replace B := aB B hb
  clear hb
  go_wp2_with fail
  refine (K1.out V2).mono ?_
  rintro e V3 ⟨rfl, hb⟩
  replace B := aB B hb
  clear hb
  go_wp2_with fail
  refine (K2.out V3).mono ?_
  rintro e V4 ⟨rfl, hb⟩
  replace B := aB B hb
  clear hb
  go_wp2_with fail
  refine (K3.out V4).mono ?_
  rintro e V5 ⟨rfl, hb⟩
  replace B := aB B hb
  clear hb
  go_wp2_with fail
  refine (K4.out V5).mono ?_
  rintro e V6 ⟨rfl, hb⟩
  replace B := aB B hb
  clear hb
  go_wp2_with fail
  refine (K1.out V6).mono ?_
  rintro e V7 ⟨rfl, hb⟩
  replace B := aB B hb
  clear hb
  go_wp2_with fail
  refine (K5.out V7).mono ?_
  rintro e V8 ⟨rfl, hb⟩
  replace B := aB B hb
  clear hb
  go_wp2_with fail
  refine (K6.out V8).mono ?_
  rintro e V9 ⟨rfl, hb⟩
  replace B := aB B hb
  clear hb
  go_wp2_with fail
  refine (K7.out V9).mono ?_
  rintro e V10 ⟨rfl, hb⟩
  replace B := aB B hb
  clear hb
  go_wp2_with fail
  refine (K3.out V10).mono ?_
  rintro e V11 ⟨rfl, hb⟩
  replace B := aB B hb
  clear hb
  go_wp2_with fail
  refine (K8.out V11).mono ?_
  rintro e V12 ⟨rfl, hb⟩
  replace B := aB B hb
  clear hb
  go_wp2_with fail
  refine (K9.out V12).mono ?_
  rintro e V13 ⟨rfl, hb⟩
  replace B := aB B hb
  clear hb
  go_wp2_with fail
  refine (K10.out V13).mono ?_
  rintro e V14 ⟨rfl, hb⟩
  replace B := aB B hb
  clear hb
  go_wp2_with fail
  refine (K6.out V14).mono ?_
  rintro e V15 ⟨rfl, hb⟩
  replace B := aB B hb
  clear hb
  go_wp2_with fail
  refine (K11.out V15).mono ?_
  rintro e V16 ⟨rfl, hb⟩
  replace B := aB B hb
  clear hb
  go_wp2_with fail
  refine (K3.out V16).mono ?_
  rintro e V17 ⟨rfl, hb⟩
  replace B := aB B hb
  clear hb
  go_wp2_with fail
  refine (K12.out V17).mono ?_
  rintro e V18 ⟨rfl, hb⟩
  replace B := aB B hb
  clear hb
  go_wp2_with fail
  refine (K13.out V18).mono ?_
  rintro e V19 ⟨rfl, hb⟩
  replace B := aB B hb
  clear hb
  go_wp2_with fail
  refine (K1.out V19).mono ?_
  rintro e V20 ⟨rfl, hb⟩
  replace B := aB B hb
  clear hb
  go_wp2_with fail
  refine (K14.out V20).mono ?_
  rintro e V21 ⟨rfl, hb⟩
  replace B := aB B hb
  clear hb
  go_wp2_with fail
  refine (N1.out V21).mono ?_
  rintro e V22 ⟨rfl, hb⟩
  replace B := aB B hb
  clear hb
  go_wp2_with fail
  refine (IV.out V22).mono ?_
  rintro e V23 ⟨rfl, hb⟩
  replace B := aB B hb
  clear hb
  go_wp2_with fail
  refine (K15.out V23).mono ?_
  rintro e V24 ⟨rfl, hb⟩
  replace B := aB B hb
  clear hb
  go_wp2_with fail
  go_ret
  exact ⟨rfl, B.out⟩
end Go.Proofs.Ytckfdpiohkggaab
