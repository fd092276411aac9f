/- withOne, withTwo, reckon, and the faces that hang on them. -/
import Derived.Test.YtckfdpiohkggaaaWith
set_option linter.unusedSimpArgs false
set_option linter.unusedVariables false
namespace Go.Proofs.Ytckfdpiohkggaaa
open Go.RowKit Go.Deep Go.PlainAid

set_option maxRecDepth 100000 in
set_option maxHeartbeats 2000000 in
theorem withOne_any {w : World} {z c : Int} {t : ByteArray} {rd tn : Nat} {caps : Array Value} {a : ByteArray}
    (C : Hid (∀ W p1 p2 p3, IHolds W p1 99 [.func (.func rd) #[] #[]] → IHolds W p2 9 [.string a] → IHolds W p3 82 [.func (.func tn) #[] caps] → Below w.heap.size w W → Calls Try.prog 48 #[.int .i64 z, .func (.func 88) #[] #[.pointer (some ⟨p1, 0, none⟩), .pointer (some ⟨p2, 0, none⟩), .pointer (some ⟨p3, 0, none⟩)]] W fun e w' => e = .returned (.tuple #[.string t, .int .i64 c]) ∧ Below W.heap.size W w')) :
    Calls Try.prog 65 #[.int .i64 z, .func (.func rd) #[] #[], .string a, .func (.func tn) #[] caps] w fun e w' => e = .returned (.tuple #[.string t, .int .i64 c]) ∧ Below w.heap.size w w' := by
  have Jp1 : Hid (IHolds (((w.alloc (.cells #[.func (.func rd) #[] #[]] 99)).alloc (.cells #[.string a] 9)).alloc (.cells #[.func (.func tn) #[] caps] 82)) (w.heap.size) 99 [.func (.func rd) #[] #[]]) := by
    have q := IHolds.new w 99 [.func (.func rd) #[] #[]]
    exact ((q.alloc _).alloc _)
  have Jp2 : Hid (IHolds (((w.alloc (.cells #[.func (.func rd) #[] #[]] 99)).alloc (.cells #[.string a] 9)).alloc (.cells #[.func (.func tn) #[] caps] 82)) (w.heap.size + 1) 9 [.string a]) := by
    have q := IHolds.new (w.alloc (.cells #[.func (.func rd) #[] #[]] 99)) 9 [.string a]
    simp only [World.size_alloc, Nat.add_assoc, Nat.reduceAdd] at q
    exact (q.alloc _)
  have Jp3 : Hid (IHolds (((w.alloc (.cells #[.func (.func rd) #[] #[]] 99)).alloc (.cells #[.string a] 9)).alloc (.cells #[.func (.func tn) #[] caps] 82)) (w.heap.size + 2) 82 [.func (.func tn) #[] caps]) := by
    have q := IHolds.new ((w.alloc (.cells #[.func (.func rd) #[] #[]] 99)).alloc (.cells #[.string a] 9)) 82 [.func (.func tn) #[] caps]
    simp only [World.size_alloc, Nat.add_assoc, Nat.reduceAdd] at q
    exact q
  have B : Hid (Below w.heap.size w (((w.alloc (.cells #[.func (.func rd) #[] #[]] 99)).alloc (.cells #[.string a] 9)).alloc (.cells #[.func (.func tn) #[] caps] 82))) := ((((Below.refl _ w).alloc (Nat.le_refl _) _).alloc (by simp only [World.size_alloc]; omega) _).alloc (by simp only [World.size_alloc]; omega) _)
  go_enter Try.func65, Try.ntmps65
  go_wp2_with fail
  generalize (((w.alloc (.cells #[.func (.func rd) #[] #[]] 99)).alloc (.cells #[.string a] 9)).alloc (.cells #[.func (.func tn) #[] caps] 82)) = V0 at *
  refine (C.out V0 _ _ _ Jp1.out Jp2.out Jp3.out B.out).mono ?_
  rintro e V1 ⟨rfl, hb⟩
  replace B := aB B hb
  clear hb
  go_wp2_with fail
  go_ret2
  exact ⟨rfl, B.out⟩
set_option maxRecDepth 100000 in
set_option maxHeartbeats 2000000 in
theorem withTwo_any {w : World} {z c : Int} {t : ByteArray} {rd rd2 tn : Nat} {caps : Array Value} {a b : ByteArray}
    (C : Hid (∀ W q1 q2 q3, IHolds W q1 99 [.func (.func rd2) #[] #[]] → IHolds W q2 9 [.string b] → IHolds W q3 89 [.func (.func tn) #[] caps] → Below w.heap.size w W → Calls Try.prog 65 #[.int .i64 z, .func (.func rd) #[] #[], .string a, .func (.func 96) #[] #[.pointer (some ⟨q1, 0, none⟩), .pointer (some ⟨q2, 0, none⟩), .pointer (some ⟨q3, 0, none⟩)]] W fun e w' => e = .returned (.tuple #[.string t, .int .i64 c]) ∧ Below W.heap.size W w')) :
    Calls Try.prog 74 #[.int .i64 z, .func (.func rd) #[] #[], .string a, .func (.func rd2) #[] #[], .string b, .func (.func tn) #[] caps] w fun e w' => e = .returned (.tuple #[.string t, .int .i64 c]) ∧ Below w.heap.size w w' := by
  have Jq1 : Hid (IHolds (((w.alloc (.cells #[.func (.func rd2) #[] #[]] 99)).alloc (.cells #[.string b] 9)).alloc (.cells #[.func (.func tn) #[] caps] 89)) (w.heap.size) 99 [.func (.func rd2) #[] #[]]) := by
    have q := IHolds.new w 99 [.func (.func rd2) #[] #[]]
    exact ((q.alloc _).alloc _)
  have Jq2 : Hid (IHolds (((w.alloc (.cells #[.func (.func rd2) #[] #[]] 99)).alloc (.cells #[.string b] 9)).alloc (.cells #[.func (.func tn) #[] caps] 89)) (w.heap.size + 1) 9 [.string b]) := by
    have q := IHolds.new (w.alloc (.cells #[.func (.func rd2) #[] #[]] 99)) 9 [.string b]
    simp only [World.size_alloc, Nat.add_assoc, Nat.reduceAdd] at q
    exact (q.alloc _)
  have Jq3 : Hid (IHolds (((w.alloc (.cells #[.func (.func rd2) #[] #[]] 99)).alloc (.cells #[.string b] 9)).alloc (.cells #[.func (.func tn) #[] caps] 89)) (w.heap.size + 2) 89 [.func (.func tn) #[] caps]) := by
    have q := IHolds.new ((w.alloc (.cells #[.func (.func rd2) #[] #[]] 99)).alloc (.cells #[.string b] 9)) 89 [.func (.func tn) #[] caps]
    simp only [World.size_alloc, Nat.add_assoc, Nat.reduceAdd] at q
    exact q
  have B : Hid (Below w.heap.size w (((w.alloc (.cells #[.func (.func rd2) #[] #[]] 99)).alloc (.cells #[.string b] 9)).alloc (.cells #[.func (.func tn) #[] caps] 89))) := ((((Below.refl _ w).alloc (Nat.le_refl _) _).alloc (by simp only [World.size_alloc]; omega) _).alloc (by simp only [World.size_alloc]; omega) _)
  go_enter Try.func74, Try.ntmps74
  go_wp2_with fail
  generalize (((w.alloc (.cells #[.func (.func rd2) #[] #[]] 99)).alloc (.cells #[.string b] 9)).alloc (.cells #[.func (.func tn) #[] caps] 89)) = V0 at *
  refine (C.out V0 _ _ _ Jq1.out Jq2.out Jq3.out B.out).mono ?_
  rintro e V1 ⟨rfl, hb⟩
  replace B := aB B hb
  clear hb
  go_wp2_with fail
  go_ret2
  exact ⟨rfl, B.out⟩
set_option maxRecDepth 100000 in
set_option maxHeartbeats 2000000 in
theorem reckon_any {w : World} {z c : Int} {t : ByteArray} {how : Nat} {a b : ByteArray}
    (C : Hid (∀ W r1, IHolds W r1 85 [.func (.func how) #[] #[]] → Below w.heap.size w W → Calls Try.prog 74 #[.int .i64 z, .func (.func 59) #[] #[], .string a, .func (.func 59) #[] #[], .string b, .func (.func 91) #[] #[.pointer (some ⟨r1, 0, none⟩)]] W fun e w' => e = .returned (.tuple #[.string t, .int .i64 c]) ∧ Below W.heap.size W w')) :
    Calls Try.prog 69 #[.int .i64 z, .string a, .string b, .func (.func how) #[] #[]] w fun e w' => e = .returned (.tuple #[.string t, .int .i64 c]) ∧ Below w.heap.size w w' := by
  have Jr1 : Hid (IHolds (w.alloc (.cells #[.func (.func how) #[] #[]] 85)) (w.heap.size) 85 [.func (.func how) #[] #[]]) := by
    have q := IHolds.new w 85 [.func (.func how) #[] #[]]
    exact q
  have B : Hid (Below w.heap.size w (w.alloc (.cells #[.func (.func how) #[] #[]] 85))) := ((Below.refl _ w).alloc (Nat.le_refl _) _)
  go_enter Try.func69, Try.ntmps69
  go_wp2_with fail
  generalize (w.alloc (.cells #[.func (.func how) #[] #[]] 85)) = V0 at *
  refine (C.out V0 _ Jr1.out B.out).mono ?_
  rintro e V1 ⟨rfl, hb⟩
  replace B := aB B hb
  clear hb
  go_wp2_with fail
  go_ret2
  exact ⟨rfl, B.out⟩
set_option maxRecDepth 100000 in
set_option maxHeartbeats 2000000 in
theorem inv_face {w : World} {z c : Int} {t : ByteArray} {a : ByteArray}
    (C : Hid (Calls Try.prog 65 #[.int .i64 z, .func (.func 59) #[] #[], .string a, .func (.func 66) #[] #[]] w fun e w' => e = .returned (.tuple #[.string t, .int .i64 c]) ∧ Below w.heap.size w w')) :
    Calls Try.prog 26 #[.int .i64 z, .string a] w fun e w' => e = .returned (.tuple #[.string t, .int .i64 c]) ∧ Below w.heap.size w w' := by
  go_enter Try.func26, Try.ntmps26
  go_wp2_with fail
  refine C.out.mono ?_
  rintro e V1 ⟨rfl, hb⟩
  have B : Hid (Below w.heap.size w V1) := hb
  clear hb
  go_wp2_with fail
  go_ret2
  exact ⟨rfl, B.out⟩
set_option maxRecDepth 100000 in
set_option maxHeartbeats 2000000 in
theorem under_face {w : World} {z c : Int} {t : ByteArray} {a : ByteArray}
    (C : Hid (Calls Try.prog 65 #[.int .i64 z, .func (.func 61) #[] #[], .string a, .func (.func 77) #[] #[]] w fun e w' => e = .returned (.tuple #[.string t, .int .i64 c]) ∧ Below w.heap.size w w')) :
    Calls Try.prog 39 #[.int .i64 z, .string a] w fun e w' => e = .returned (.tuple #[.string t, .int .i64 c]) ∧ Below w.heap.size w w' := by
  go_enter Try.func39, Try.ntmps39
  go_wp2_with fail
  refine C.out.mono ?_
  rintro e V1 ⟨rfl, hb⟩
  have B : Hid (Below w.heap.size w V1) := hb
  clear hb
  go_wp2_with fail
  go_ret2
  exact ⟨rfl, B.out⟩
set_option maxRecDepth 100000 in
set_option maxHeartbeats 2000000 in
theorem add_face {w : World} {z c : Int} {t : ByteArray} {a b : ByteArray}
    (C : Hid (Calls Try.prog 69 #[.int .i64 z, .string a, .string b, .func (.func 70) #[] #[]] w fun e w' => e = .returned (.tuple #[.string t, .int .i64 c]) ∧ Below w.heap.size w w')) :
    Calls Try.prog 28 #[.int .i64 z, .string a, .string b] w fun e w' => e = .returned (.tuple #[.string t, .int .i64 c]) ∧ Below w.heap.size w w' := by
  go_enter Try.func28, Try.ntmps28
  go_wp2_with fail
  refine C.out.mono ?_
  rintro e V1 ⟨rfl, hb⟩
  have B : Hid (Below w.heap.size w V1) := hb
  clear hb
  go_wp2_with fail
  go_ret2
  exact ⟨rfl, B.out⟩
set_option maxRecDepth 100000 in
set_option maxHeartbeats 2000000 in
theorem sub_face {w : World} {z c : Int} {t : ByteArray} {a b : ByteArray}
    (C : Hid (Calls Try.prog 69 #[.int .i64 z, .string a, .string b, .func (.func 71) #[] #[]] w fun e w' => e = .returned (.tuple #[.string t, .int .i64 c]) ∧ Below w.heap.size w w')) :
    Calls Try.prog 29 #[.int .i64 z, .string a, .string b] w fun e w' => e = .returned (.tuple #[.string t, .int .i64 c]) ∧ Below w.heap.size w w' := by
  go_enter Try.func29, Try.ntmps29
  go_wp2_with fail
  refine C.out.mono ?_
  rintro e V1 ⟨rfl, hb⟩
  have B : Hid (Below w.heap.size w V1) := hb
  clear hb
  go_wp2_with fail
  go_ret2
  exact ⟨rfl, B.out⟩
set_option maxRecDepth 100000 in
set_option maxHeartbeats 2000000 in
theorem mul_face {w : World} {z c : Int} {t : ByteArray} {a b : ByteArray}
    (C : Hid (Calls Try.prog 69 #[.int .i64 z, .string a, .string b, .func (.func 72) #[] #[]] w fun e w' => e = .returned (.tuple #[.string t, .int .i64 c]) ∧ Below w.heap.size w w')) :
    Calls Try.prog 30 #[.int .i64 z, .string a, .string b] w fun e w' => e = .returned (.tuple #[.string t, .int .i64 c]) ∧ Below w.heap.size w w' := by
  go_enter Try.func30, Try.ntmps30
  go_wp2_with fail
  refine C.out.mono ?_
  rintro e V1 ⟨rfl, hb⟩
  have B : Hid (Below w.heap.size w V1) := hb
  clear hb
  go_wp2_with fail
  go_ret2
  exact ⟨rfl, B.out⟩
set_option maxRecDepth 100000 in
set_option maxHeartbeats 2000000 in
theorem times_face {w : World} {z c : Int} {t : ByteArray} {a b : ByteArray}
    (C : Hid (Calls Try.prog 74 #[.int .i64 z, .func (.func 61) #[] #[], .string a, .func (.func 61) #[] #[], .string b, .func (.func 75) #[] #[]] w fun e w' => e = .returned (.tuple #[.string t, .int .i64 c]) ∧ Below w.heap.size w w')) :
    Calls Try.prog 37 #[.int .i64 z, .string a, .string b] w fun e w' => e = .returned (.tuple #[.string t, .int .i64 c]) ∧ Below w.heap.size w w' := by
  go_enter Try.func37, Try.ntmps37
  go_wp2_with fail
  refine C.out.mono ?_
  rintro e V1 ⟨rfl, hb⟩
  have B : Hid (Below w.heap.size w V1) := hb
  clear hb
  go_wp2_with fail
  go_ret2
  exact ⟨rfl, B.out⟩
set_option maxRecDepth 100000 in
set_option maxHeartbeats 2000000 in
theorem power_face {w : World} {z c : Int} {t : ByteArray} {a b : ByteArray}
    (C : Hid (Calls Try.prog 74 #[.int .i64 z, .func (.func 61) #[] #[], .string a, .func (.func 59) #[] #[], .string b, .func (.func 76) #[] #[]] w fun e w' => e = .returned (.tuple #[.string t, .int .i64 c]) ∧ Below w.heap.size w w')) :
    Calls Try.prog 38 #[.int .i64 z, .string a, .string b] w fun e w' => e = .returned (.tuple #[.string t, .int .i64 c]) ∧ Below w.heap.size w w' := by
  go_enter Try.func38, Try.ntmps38
  go_wp2_with fail
  refine C.out.mono ?_
  rintro e V1 ⟨rfl, hb⟩
  have B : Hid (Below w.heap.size w V1) := hb
  clear hb
  go_wp2_with fail
  go_ret2
  exact ⟨rfl, B.out⟩
end Go.Proofs.Ytckfdpiohkggaaa
