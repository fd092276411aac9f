/- The walk of GroupLaw. -/
import Derived.Test.YtckfdpiohkggaabAid
set_option linter.unusedSimpArgs false
set_option linter.unusedVariables false
namespace Go.Proofs.Ytckfdpiohkggaab
open Go.RowKit Go.Deep Go.PlainAid

set_option maxRecDepth 100000 in
set_option maxHeartbeats 2000000 in
theorem glaw_none {w : World} {z : Int} {a b c m n : ByteArray}
    (BA : Hid (∀ W, Calls Try.prog 13 #[.int .i64 z] W fun e w' => e = .returned (.tuple #[.string ⟨#[]⟩, .int .i64 1]) ∧ Below W.heap.size W w')) :
    Calls Try.prog 4 #[.int .i64 z, .string a, .string b, .string c, .string m, .string n] w fun e w' => e = .returned (.bool true) ∧ Below w.heap.size w w' := by
  have B : Hid (Below w.heap.size w w) := Below.refl _ _
  go_enter Try.func4, Try.ntmps4
  go_wp2_with fail
  refine (BA.out w).mono ?_
  rintro e V0 ⟨rfl, hb⟩
  replace B := aB B hb
  clear hb
  go_wp2_with fail
  go_ret
  exact ⟨rfl, B.out⟩
set_option maxRecDepth 100000 in
set_option maxHeartbeats 2000000 in
theorem glaw_bad0 {w : World} {z : Int} {a b c m n bs : ByteArray}
    (BA : Hid (∀ W, Calls Try.prog 13 #[.int .i64 z] W fun e w' => e = .returned (.tuple #[.string bs, .int .i64 0]) ∧ Below W.heap.size W w'))
    (Mb : Hid (∀ W, Calls Try.prog 14 #[.int .i64 z, .string bs] W fun e w' => e = .returned (.bool true) ∧ Below W.heap.size W w'))
    (Ma : Hid (∀ W, Calls Try.prog 14 #[.int .i64 z, .string a] W fun e w' => e = .returned (.bool false) ∧ Below W.heap.size W w')) :
    Calls Try.prog 4 #[.int .i64 z, .string a, .string b, .string c, .string m, .string n] w fun e w' => e = .returned (.bool true) ∧ Below w.heap.size w w' := by
  have B : Hid (Below w.heap.size w w) := Below.refl _ _
  go_enter Try.func4, Try.ntmps4
  go_wp2_with fail
  refine (BA.out w).mono ?_
  rintro e V0 ⟨rfl, hb⟩
  replace B := aB B hb
  clear hb
  go_wp2_with fail
  refine (Mb.out V0).mono ?_
  rintro e V1 ⟨rfl, hb⟩
  replace B := aB B hb
  clear hb
  go_wp2_with fail
  refine (Ma.out V1).mono ?_
  rintro e V2 ⟨rfl, hb⟩
  replace B := aB B hb
  clear hb
  go_wp2_with fail
  go_ret
  exact ⟨rfl, B.out⟩
set_option maxRecDepth 100000 in
set_option maxHeartbeats 2000000 in
theorem glaw_bad1 {w : World} {z : Int} {a b c m n bs : ByteArray}
    (BA : Hid (∀ W, Calls Try.prog 13 #[.int .i64 z] W fun e w' => e = .returned (.tuple #[.string bs, .int .i64 0]) ∧ Below W.heap.size W w'))
    (Mb : Hid (∀ W, Calls Try.prog 14 #[.int .i64 z, .string bs] W fun e w' => e = .returned (.bool true) ∧ Below W.heap.size W w'))
    (Ma : Hid (∀ W, Calls Try.prog 14 #[.int .i64 z, .string a] W fun e w' => e = .returned (.bool true) ∧ Below W.heap.size W w'))
    (Mbb : Hid (∀ W, Calls Try.prog 14 #[.int .i64 z, .string b] W fun e w' => e = .returned (.bool false) ∧ Below W.heap.size W w')) :
    Calls Try.prog 4 #[.int .i64 z, .string a, .string b, .string c, .string m, .string n] w fun e w' => e = .returned (.bool true) ∧ Below w.heap.size w w' := by
  have B : Hid (Below w.heap.size w w) := Below.refl _ _
  go_enter Try.func4, Try.ntmps4
  go_wp2_with fail
  refine (BA.out w).mono ?_
  rintro e V0 ⟨rfl, hb⟩
  replace B := aB B hb
  clear hb
  go_wp2_with fail
  refine (Mb.out V0).mono ?_
  rintro e V1 ⟨rfl, hb⟩
  replace B := aB B hb
  clear hb
  go_wp2_with fail
  refine (Ma.out V1).mono ?_
  rintro e V2 ⟨rfl, hb⟩
  replace B := aB B hb
  clear hb
  go_wp2_with fail
  refine (Mbb.out V2).mono ?_
  rintro e V3 ⟨rfl, hb⟩
  replace B := aB B hb
  clear hb
  go_wp2_with fail
  go_ret
  exact ⟨rfl, B.out⟩
set_option maxRecDepth 100000 in
set_option maxHeartbeats 2000000 in
theorem glaw_bad2 {w : World} {z : Int} {a b c m n bs : ByteArray}
    (BA : Hid (∀ W, Calls Try.prog 13 #[.int .i64 z] W fun e w' => e = .returned (.tuple #[.string bs, .int .i64 0]) ∧ Below W.heap.size W w'))
    (Mb : Hid (∀ W, Calls Try.prog 14 #[.int .i64 z, .string bs] W fun e w' => e = .returned (.bool true) ∧ Below W.heap.size W w'))
    (Ma : Hid (∀ W, Calls Try.prog 14 #[.int .i64 z, .string a] W fun e w' => e = .returned (.bool true) ∧ Below W.heap.size W w'))
    (Mbb : Hid (∀ W, Calls Try.prog 14 #[.int .i64 z, .string b] W fun e w' => e = .returned (.bool true) ∧ Below W.heap.size W w'))
    (Mc : Hid (∀ W, Calls Try.prog 14 #[.int .i64 z, .string c] W fun e w' => e = .returned (.bool false) ∧ Below W.heap.size W w')) :
    Calls Try.prog 4 #[.int .i64 z, .string a, .string b, .string c, .string m, .string n] w fun e w' => e = .returned (.bool true) ∧ Below w.heap.size w w' := by
  have B : Hid (Below w.heap.size w w) := Below.refl _ _
  go_enter Try.func4, Try.ntmps4
  go_wp2_with fail
  refine (BA.out w).mono ?_
  rintro e V0 ⟨rfl, hb⟩
  replace B := aB B hb
  clear hb
  go_wp2_with fail
  refine (Mb.out V0).mono ?_
  rintro e V1 ⟨rfl, hb⟩
  replace B := aB B hb
  clear hb
  go_wp2_with fail
  refine (Ma.out V1).mono ?_
  rintro e V2 ⟨rfl, hb⟩
  replace B := aB B hb
  clear hb
  go_wp2_with fail
  refine (Mbb.out V2).mono ?_
  rintro e V3 ⟨rfl, hb⟩
  replace B := aB B hb
  clear hb
  go_wp2_with fail
  refine (Mc.out V3).mono ?_
  rintro e V4 ⟨rfl, hb⟩
  replace B := aB B hb
  clear hb
  go_wp2_with fail
  go_ret
  exact ⟨rfl, B.out⟩
set_option maxRecDepth 100000 in
set_option maxHeartbeats 2000000 in
theorem glaw_bad3 {w : World} {z : Int} {a b c m n bs : ByteArray}
    (BA : Hid (∀ W, Calls Try.prog 13 #[.int .i64 z] W fun e w' => e = .returned (.tuple #[.string bs, .int .i64 0]) ∧ Below W.heap.size W w'))
    (Mb : Hid (∀ W, Calls Try.prog 14 #[.int .i64 z, .string bs] W fun e w' => e = .returned (.bool true) ∧ Below W.heap.size W w'))
    (Ma : Hid (∀ W, Calls Try.prog 14 #[.int .i64 z, .string a] W fun e w' => e = .returned (.bool true) ∧ Below W.heap.size W w'))
    (Mbb : Hid (∀ W, Calls Try.prog 14 #[.int .i64 z, .string b] W fun e w' => e = .returned (.bool true) ∧ Below W.heap.size W w'))
    (Mc : Hid (∀ W, Calls Try.prog 14 #[.int .i64 z, .string c] W fun e w' => e = .returned (.bool true) ∧ Below W.heap.size W w'))
    (Sm : Hid (∀ W, Calls Try.prog 6 #[.int .i64 z, .string m] W fun e w' => e = .returned (.bool false) ∧ Below W.heap.size W w')) :
    Calls Try.prog 4 #[.int .i64 z, .string a, .string b, .string c, .string m, .string n] w fun e w' => e = .returned (.bool true) ∧ Below w.heap.size w w' := by
  have B : Hid (Below w.heap.size w w) := Below.refl _ _
  go_enter Try.func4, Try.ntmps4
  go_wp2_with fail
  refine (BA.out w).mono ?_
  rintro e V0 ⟨rfl, hb⟩
  replace B := aB B hb
  clear hb
  go_wp2_with fail
  refine (Mb.out V0).mono ?_
  rintro e V1 ⟨rfl, hb⟩
  replace B := aB B hb
  clear hb
  go_wp2_with fail
  refine (Ma.out V1).mono ?_
  rintro e V2 ⟨rfl, hb⟩
  replace B := aB B hb
  clear hb
  go_wp2_with fail
  refine (Mbb.out V2).mono ?_
  rintro e V3 ⟨rfl, hb⟩
  replace B := aB B hb
  clear hb
  go_wp2_with fail
  refine (Mc.out V3).mono ?_
  rintro e V4 ⟨rfl, hb⟩
  replace B := aB B hb
  clear hb
  go_wp2_with fail
  refine (Sm.out V4).mono ?_
  rintro e V5 ⟨rfl, hb⟩
  replace B := aB B hb
  clear hb
  go_wp2_with fail
  go_ret
  exact ⟨rfl, B.out⟩
set_option maxRecDepth 100000 in
set_option maxHeartbeats 2000000 in
theorem glaw_bad4 {w : World} {z : Int} {a b c m n bs : ByteArray}
    (BA : Hid (∀ W, Calls Try.prog 13 #[.int .i64 z] W fun e w' => e = .returned (.tuple #[.string bs, .int .i64 0]) ∧ Below W.heap.size W w'))
    (Mb : Hid (∀ W, Calls Try.prog 14 #[.int .i64 z, .string bs] W fun e w' => e = .returned (.bool true) ∧ Below W.heap.size W w'))
    (Ma : Hid (∀ W, Calls Try.prog 14 #[.int .i64 z, .string a] W fun e w' => e = .returned (.bool true) ∧ Below W.heap.size W w'))
    (Mbb : Hid (∀ W, Calls Try.prog 14 #[.int .i64 z, .string b] W fun e w' => e = .returned (.bool true) ∧ Below W.heap.size W w'))
    (Mc : Hid (∀ W, Calls Try.prog 14 #[.int .i64 z, .string c] W fun e w' => e = .returned (.bool true) ∧ Below W.heap.size W w'))
    (Sm : Hid (∀ W, Calls Try.prog 6 #[.int .i64 z, .string m] W fun e w' => e = .returned (.bool true) ∧ Below W.heap.size W w'))
    (Sn : Hid (∀ W, Calls Try.prog 6 #[.int .i64 z, .string n] W fun e w' => e = .returned (.bool false) ∧ Below W.heap.size W w')) :
    Calls Try.prog 4 #[.int .i64 z, .string a, .string b, .string c, .string m, .string n] w fun e w' => e = .returned (.bool true) ∧ Below w.heap.size w w' := by
  have B : Hid (Below w.heap.size w w) := Below.refl _ _
  go_enter Try.func4, Try.ntmps4
  go_wp2_with fail
  refine (BA.out w).mono ?_
  rintro e V0 ⟨rfl, hb⟩
  replace B := aB B hb
  clear hb
  go_wp2_with fail
  refine (Mb.out V0).mono ?_
  rintro e V1 ⟨rfl, hb⟩
  replace B := aB B hb
  clear hb
  go_wp2_with fail
  refine (Ma.out V1).mono ?_
  rintro e V2 ⟨rfl, hb⟩
  replace B := aB B hb
  clear hb
  go_wp2_with fail
  refine (Mbb.out V2).mono ?_
  rintro e V3 ⟨rfl, hb⟩
  replace B := aB B hb
  clear hb
  go_wp2_with fail
  refine (Mc.out V3).mono ?_
  rintro e V4 ⟨rfl, hb⟩
  replace B := aB B hb
  clear hb
  go_wp2_with fail
  refine (Sm.out V4).mono ?_
  rintro e V5 ⟨rfl, hb⟩
  replace B := aB B hb
  clear hb
  go_wp2_with fail
  refine (Sn.out V5).mono ?_
  rintro e V6 ⟨rfl, hb⟩
  replace B := aB B hb
  clear hb
  go_wp2_with fail
  go_ret
  exact ⟨rfl, B.out⟩
set_option maxRecDepth 100000 in
set_option maxHeartbeats 2000000 in
theorem glaw_ok {w : World} {z : Int} {a b c m n bs z0 o1 la u unit pl ab abc bc su pr am an q1 q2 q3 bm bn pp : ByteArray}
    (BA : Hid (∀ W, Calls Try.prog 13 #[.int .i64 z] W fun e w' => e = .returned (.tuple #[.string bs, .int .i64 0]) ∧ Below W.heap.size W w'))
    (Mb : Hid (∀ W, Calls Try.prog 14 #[.int .i64 z, .string bs] W fun e w' => e = .returned (.bool true) ∧ Below W.heap.size W w'))
    (Ma : Hid (∀ W, Calls Try.prog 14 #[.int .i64 z, .string a] W fun e w' => e = .returned (.bool true) ∧ Below W.heap.size W w'))
    (Mbb : Hid (∀ W, Calls Try.prog 14 #[.int .i64 z, .string b] W fun e w' => e = .returned (.bool true) ∧ Below W.heap.size W w'))
    (Mc : Hid (∀ W, Calls Try.prog 14 #[.int .i64 z, .string c] W fun e w' => e = .returned (.bool true) ∧ Below W.heap.size W w'))
    (Sm : Hid (∀ W, Calls Try.prog 6 #[.int .i64 z, .string m] W fun e w' => e = .returned (.bool true) ∧ Below W.heap.size W w'))
    (Sn : Hid (∀ W, Calls Try.prog 6 #[.int .i64 z, .string n] W fun e w' => e = .returned (.bool true) ∧ Below W.heap.size W w'))
    (N0 : Hid (∀ W, Calls Try.prog 8 #[.int .i64 z, .int .i64 0] W fun e w' => e = .returned (.tuple #[.string z0, .int .i64 0]) ∧ Below W.heap.size W w'))
    (N1 : Hid (∀ W, Calls Try.prog 8 #[.int .i64 z, .int .i64 1] W fun e w' => e = .returned (.tuple #[.string o1, .int .i64 0]) ∧ Below W.heap.size W w'))
    (NL : Hid (∀ W, Calls Try.prog 8 #[.int .i64 z, .int .i64 (-1)] W fun e w' => e = .returned (.tuple #[.string la, .int .i64 0]) ∧ Below W.heap.size W w'))
    (UN : Hid (∀ W, Calls Try.prog 16 #[.int .i64 z, .string a] W fun e w' => e = .returned (.tuple #[.string u, .int .i64 0]) ∧ Below W.heap.size W w'))
    (P1 : Hid (∀ W, Calls Try.prog 15 #[.int .i64 z, .string a, .string z0] W fun e w' => e = .returned (.string unit) ∧ Below W.heap.size W w'))
    (P2 : Hid (∀ W, Calls Try.prog 15 #[.int .i64 z, .string a, .string o1] W fun e w' => e = .returned (.string a) ∧ Below W.heap.size W w'))
    (P3 : Hid (∀ W, Calls Try.prog 15 #[.int .i64 z, .string a, .string la] W fun e w' => e = .returned (.string pl) ∧ Below W.heap.size W w'))
    (Pam : Hid (∀ W, Calls Try.prog 15 #[.int .i64 z, .string a, .string m] W fun e w' => e = .returned (.string am) ∧ Below W.heap.size W w'))
    (Pan : Hid (∀ W, Calls Try.prog 15 #[.int .i64 z, .string a, .string n] W fun e w' => e = .returned (.string an) ∧ Below W.heap.size W w'))
    (Psu : Hid (∀ W, Calls Try.prog 15 #[.int .i64 z, .string a, .string su] W fun e w' => e = .returned (.string q1) ∧ Below W.heap.size W w'))
    (Pamn : Hid (∀ W, Calls Try.prog 15 #[.int .i64 z, .string am, .string n] W fun e w' => e = .returned (.string q2) ∧ Below W.heap.size W w'))
    (Ppr : Hid (∀ W, Calls Try.prog 15 #[.int .i64 z, .string a, .string pr] W fun e w' => e = .returned (.string q2) ∧ Below W.heap.size W w'))
    (Pabm : Hid (∀ W, Calls Try.prog 15 #[.int .i64 z, .string ab, .string m] W fun e w' => e = .returned (.string q3) ∧ Below W.heap.size W w'))
    (Pbm : Hid (∀ W, Calls Try.prog 15 #[.int .i64 z, .string b, .string m] W fun e w' => e = .returned (.string bm) ∧ Below W.heap.size W w'))
    (Pbn : Hid (∀ W, Calls Try.prog 15 #[.int .i64 z, .string b, .string n] W fun e w' => e = .returned (.string bn) ∧ Below W.heap.size W w'))
    (T1 : Hid (∀ W, Calls Try.prog 17 #[.int .i64 z, .string a, .string u] W fun e w' => e = .returned (.string unit) ∧ Below W.heap.size W w'))
    (T2 : Hid (∀ W, Calls Try.prog 17 #[.int .i64 z, .string a, .string unit] W fun e w' => e = .returned (.string a) ∧ Below W.heap.size W w'))
    (T3 : Hid (∀ W, Calls Try.prog 17 #[.int .i64 z, .string pl, .string a] W fun e w' => e = .returned (.string unit) ∧ Below W.heap.size W w'))
    (Tab : Hid (∀ W, Calls Try.prog 17 #[.int .i64 z, .string a, .string b] W fun e w' => e = .returned (.string ab) ∧ Below W.heap.size W w'))
    (Tba : Hid (∀ W, Calls Try.prog 17 #[.int .i64 z, .string b, .string a] W fun e w' => e = .returned (.string ab) ∧ Below W.heap.size W w'))
    (Tabc : Hid (∀ W, Calls Try.prog 17 #[.int .i64 z, .string ab, .string c] W fun e w' => e = .returned (.string abc) ∧ Below W.heap.size W w'))
    (Tbc : Hid (∀ W, Calls Try.prog 17 #[.int .i64 z, .string b, .string c] W fun e w' => e = .returned (.string bc) ∧ Below W.heap.size W w'))
    (Tabc2 : Hid (∀ W, Calls Try.prog 17 #[.int .i64 z, .string a, .string bc] W fun e w' => e = .returned (.string abc) ∧ Below W.heap.size W w'))
    (Tq1 : Hid (∀ W, Calls Try.prog 17 #[.int .i64 z, .string am, .string an] W fun e w' => e = .returned (.string q1) ∧ Below W.heap.size W w'))
    (Tq3 : Hid (∀ W, Calls Try.prog 17 #[.int .i64 z, .string am, .string bm] W fun e w' => e = .returned (.string q3) ∧ Below W.heap.size W w'))
    (Tpp : Hid (∀ W, Calls Try.prog 17 #[.int .i64 z, .string am, .string bn] W fun e w' => e = .returned (.string pp) ∧ Below W.heap.size W w'))
    (Mab : Hid (∀ W, Calls Try.prog 14 #[.int .i64 z, .string ab] W fun e w' => e = .returned (.bool true) ∧ Below W.heap.size W w'))
    (AD : Hid (∀ W, Calls Try.prog 18 #[.int .i64 z, .string m, .string n] W fun e w' => e = .returned (.tuple #[.string su, .int .i64 0]) ∧ Below W.heap.size W w'))
    (MU : Hid (∀ W, Calls Try.prog 19 #[.int .i64 z, .string m, .string n] W fun e w' => e = .returned (.tuple #[.string pr, .int .i64 0]) ∧ Below W.heap.size W w'))
    (PR : Hid (∀ W b1 b2, IHolds W b1 9 [.string a, .string b] → IHolds W b2 9 [.string m, .string n] → Calls Try.prog 20 #[.int .i64 z, .slice (some ⟨b1, 0, none⟩) 2 2, .slice (some ⟨b2, 0, none⟩) 2 2] W fun e w' => e = .returned (.tuple #[.string pp, .int .i64 0]) ∧ Below W.heap.size W w')) :
    Calls Try.prog 4 #[.int .i64 z, .string a, .string b, .string c, .string m, .string n] w fun e w' => e = .returned (.bool true) ∧ Below w.heap.size w w' := by
  have B : Hid (Below w.heap.size w w) := Below.refl _ _
  go_enter Try.func4, Try.ntmps4
  go_wp2_with fail
  refine (BA.out w).mono ?_
  rintro e V0 ⟨rfl, hb⟩
  replace B := aB B hb
  clear hb
  go_wp2_with fail
  refine (Mb.out V0).mono ?_
  rintro e V1 ⟨rfl, hb⟩
  replace B := aB B hb
  clear hb
  go_wp2_with fail
  refine (Ma.out V1).mono ?_
  rintro e V2 ⟨rfl, hb⟩
  replace B := aB B hb
  clear hb
  go_wp2_with fail
  refine (Mbb.out V2).mono ?_
  rintro e V3 ⟨rfl, hb⟩
  replace B := aB B hb
  clear hb
  go_wp2_with fail
  refine (Mc.out V3).mono ?_
  rintro e V4 ⟨rfl, hb⟩
  replace B := aB B hb
  clear hb
  go_wp2_with fail
  refine (Sm.out V4).mono ?_
  rintro e V5 ⟨rfl, hb⟩
  replace B := aB B hb
  clear hb
  go_wp2_with fail
  refine (Sn.out V5).mono ?_
  rintro e V6 ⟨rfl, hb⟩
  replace B := aB B hb
  clear hb
  go_wp2_with fail
  refine (N0.out V6).mono ?_
  rintro e V7 ⟨rfl, hb⟩
  replace B := aB B hb
  clear hb
  go_wp2_with fail
  refine (N1.out V7).mono ?_
  rintro e V8 ⟨rfl, hb⟩
  replace B := aB B hb
  clear hb
  go_wp2_with fail
  refine (NL.out V8).mono ?_
  rintro e V9 ⟨rfl, hb⟩
  replace B := aB B hb
  clear hb
  go_wp2_with fail
  refine (P1.out V9).mono ?_
  rintro e V10 ⟨rfl, hb⟩
  replace B := aB B hb
  clear hb
  go_wp2_with fail
  refine (UN.out V10).mono ?_
  rintro e V11 ⟨rfl, hb⟩
  replace B := aB B hb
  clear hb
  go_wp2_with fail
  refine (T1.out V11).mono ?_
  rintro e V12 ⟨rfl, hb⟩
  replace B := aB B hb
  clear hb
  go_wp2_with fail
  refine (T2.out V12).mono ?_
  rintro e V13 ⟨rfl, hb⟩
  replace B := aB B hb
  clear hb
  go_wp2_with fail
  refine (P2.out V13).mono ?_
  rintro e V14 ⟨rfl, hb⟩
  replace B := aB B hb
  clear hb
  go_wp2_with fail
  refine (P3.out V14).mono ?_
  rintro e V15 ⟨rfl, hb⟩
  replace B := aB B hb
  clear hb
  go_wp2_with fail
  refine (T3.out V15).mono ?_
  rintro e V16 ⟨rfl, hb⟩
  replace B := aB B hb
  clear hb
  go_wp2_with fail
  refine (Tab.out V16).mono ?_
  rintro e V17 ⟨rfl, hb⟩
  replace B := aB B hb
  clear hb
  go_wp2_with fail
  refine (Tba.out V17).mono ?_
  rintro e V18 ⟨rfl, hb⟩
  replace B := aB B hb
  clear hb
  go_wp2_with fail
  refine (Tab.out V18).mono ?_
  rintro e V19 ⟨rfl, hb⟩
  replace B := aB B hb
  clear hb
  go_wp2_with fail
  refine (Tabc.out V19).mono ?_
  rintro e V20 ⟨rfl, hb⟩
  replace B := aB B hb
  clear hb
  go_wp2_with fail
  refine (Tbc.out V20).mono ?_
  rintro e V21 ⟨rfl, hb⟩
  replace B := aB B hb
  clear hb
  go_wp2_with fail
  refine (Tabc2.out V21).mono ?_
  rintro e V22 ⟨rfl, hb⟩
  replace B := aB B hb
  clear hb
  go_wp2_with fail
  refine (Tab.out V22).mono ?_
  rintro e V23 ⟨rfl, hb⟩
  replace B := aB B hb
  clear hb
  go_wp2_with fail
  refine (Mab.out V23).mono ?_
  rintro e V24 ⟨rfl, hb⟩
  replace B := aB B hb
  clear hb
  go_wp2_with fail
  refine (AD.out V24).mono ?_
  rintro e V25 ⟨rfl, hb⟩
  replace B := aB B hb
  clear hb
  go_wp2_with fail
  refine (MU.out V25).mono ?_
  rintro e V26 ⟨rfl, hb⟩
  replace B := aB B hb
  clear hb
  go_wp2_with fail
  refine (Pam.out V26).mono ?_
  rintro e V27 ⟨rfl, hb⟩
  replace B := aB B hb
  clear hb
  go_wp2_with fail
  refine (Pan.out V27).mono ?_
  rintro e V28 ⟨rfl, hb⟩
  replace B := aB B hb
  clear hb
  go_wp2_with fail
  refine (Tq1.out V28).mono ?_
  rintro e V29 ⟨rfl, hb⟩
  replace B := aB B hb
  clear hb
  go_wp2_with fail
  refine (Psu.out V29).mono ?_
  rintro e V30 ⟨rfl, hb⟩
  replace B := aB B hb
  clear hb
  go_wp2_with fail
  refine (Pam.out V30).mono ?_
  rintro e V31 ⟨rfl, hb⟩
  replace B := aB B hb
  clear hb
  go_wp2_with fail
  refine (Pamn.out V31).mono ?_
  rintro e V32 ⟨rfl, hb⟩
  replace B := aB B hb
  clear hb
  go_wp2_with fail
  refine (Ppr.out V32).mono ?_
  rintro e V33 ⟨rfl, hb⟩
  replace B := aB B hb
  clear hb
  go_wp2_with fail
  refine (Tab.out V33).mono ?_
  rintro e V34 ⟨rfl, hb⟩
  replace B := aB B hb
  clear hb
  go_wp2_with fail
  refine (Pabm.out V34).mono ?_
  rintro e V35 ⟨rfl, hb⟩
  replace B := aB B hb
  clear hb
  go_wp2_with fail
  refine (Pam.out V35).mono ?_
  rintro e V36 ⟨rfl, hb⟩
  replace B := aB B hb
  clear hb
  go_wp2_with fail
  refine (Pbm.out V36).mono ?_
  rintro e V37 ⟨rfl, hb⟩
  replace B := aB B hb
  clear hb
  go_wp2_with fail
  refine (Tq3.out V37).mono ?_
  rintro e V38 ⟨rfl, hb⟩
  replace B := aB B hb
  clear hb
  have J1 : Hid (IHolds ((V38.alloc (.cells #[.string a, .string b] 9)).alloc (.cells #[.string m, .string n] 9)) V38.heap.size 9 [.string a, .string b]) := (IHolds.new V38 9 _).alloc _
  have J2 : Hid (IHolds ((V38.alloc (.cells #[.string a, .string b] 9)).alloc (.cells #[.string m, .string n] 9)) (V38.heap.size + 1) 9 [.string m, .string n]) := by
    have q := IHolds.new (V38.alloc (.cells #[.string a, .string b] 9)) 9 [.string m, .string n]
    rw [World.size_alloc] at q
    exact q
  replace B := aB (aB B (nB V38 (.cells #[.string a, .string b] 9))) (nB (V38.alloc (.cells #[.string a, .string b] 9)) (.cells #[.string m, .string n] 9))
  go_wp2_with fail
  generalize ((V38.alloc (.cells #[.string a, .string b] 9)).alloc (.cells #[.string m, .string n] 9)) = X1 at *
  refine (PR.out X1 _ _ J1.out J2.out).mono ?_
  rintro e X2 ⟨rfl, hb⟩
  replace B := aB B hb
  clear hb
  go_wp2_with fail
  refine (Pam.out X2).mono ?_
  rintro e V39 ⟨rfl, hb⟩
  replace B := aB B hb
  clear hb
  go_wp2_with fail
  refine (Pbn.out V39).mono ?_
  rintro e V40 ⟨rfl, hb⟩
  replace B := aB B hb
  clear hb
  go_wp2_with fail
  refine (Tpp.out V40).mono ?_
  rintro e V41 ⟨rfl, hb⟩
  replace B := aB B hb
  clear hb
  go_wp2_with fail
  go_ret
  exact ⟨rfl, B.out⟩
end Go.Proofs.Ytckfdpiohkggaab
