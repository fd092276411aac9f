/- withOne, withTwo, reckon, and the faces that hang on them. -/
import Derived.Test.YthdffjboaicopaaWith
set_option linter.unusedSimpArgs false
set_option linter.unusedVariables false
namespace Go.Proofs.Ythdffjboaicopaa
open Go.RowKit Go.Deep Go.PlainAid

set_option maxRecDepth 100000 in
set_option maxHeartbeats 2000000 in
theorem withOne_any {w : World} {z c : Int} {t : ByteArray} {rd tn : Nat} {caps : Array Value} {a : ByteArray}
    (C : Hid (∀ W p1 p2 p3, IHolds W p1 96 [.func (.func rd) #[] #[]] → IHolds W p2 9 [.string a] → IHolds W p3 95 [.func (.func tn) #[] caps] → Below w.heap.size w W → Calls Try.prog 33 #[.int .i64 z, .func (.func 61) #[] #[.pointer (some ⟨p1, 0, none⟩), .pointer (some ⟨p2, 0, none⟩), .pointer (some ⟨p3, 0, none⟩)]] W fun e w' => e = .returned (.tuple #[.string t, .int .i64 c]) ∧ Below W.heap.size W w')) :
    Calls Try.prog 55 #[.int .i64 z, .func (.func rd) #[] #[], .string a, .func (.func tn) #[] caps] w fun e w' => e = .returned (.tuple #[.string t, .int .i64 c]) ∧ Below w.heap.size w w' := by
  have Jp1 : Hid (IHolds (((w.alloc (.cells #[.func (.func rd) #[] #[]] 96)).alloc (.cells #[.string a] 9)).alloc (.cells #[.func (.func tn) #[] caps] 95)) (w.heap.size) 96 [.func (.func rd) #[] #[]]) := by
    have q := IHolds.new w 96 [.func (.func rd) #[] #[]]
    exact ((q.alloc _).alloc _)
  have Jp2 : Hid (IHolds (((w.alloc (.cells #[.func (.func rd) #[] #[]] 96)).alloc (.cells #[.string a] 9)).alloc (.cells #[.func (.func tn) #[] caps] 95)) (w.heap.size + 1) 9 [.string a]) := by
    have q := IHolds.new (w.alloc (.cells #[.func (.func rd) #[] #[]] 96)) 9 [.string a]
    simp only [World.size_alloc, Nat.add_assoc, Nat.reduceAdd] at q
    exact (q.alloc _)
  have Jp3 : Hid (IHolds (((w.alloc (.cells #[.func (.func rd) #[] #[]] 96)).alloc (.cells #[.string a] 9)).alloc (.cells #[.func (.func tn) #[] caps] 95)) (w.heap.size + 2) 95 [.func (.func tn) #[] caps]) := by
    have q := IHolds.new ((w.alloc (.cells #[.func (.func rd) #[] #[]] 96)).alloc (.cells #[.string a] 9)) 95 [.func (.func tn) #[] caps]
    simp only [World.size_alloc, Nat.add_assoc, Nat.reduceAdd] at q
    exact q
  have B : Hid (Below w.heap.size w (((w.alloc (.cells #[.func (.func rd) #[] #[]] 96)).alloc (.cells #[.string a] 9)).alloc (.cells #[.func (.func tn) #[] caps] 95))) := ((((Below.refl _ w).alloc (Nat.le_refl _) _).alloc (by simp only [World.size_alloc]; omega) _).alloc (by simp only [World.size_alloc]; omega) _)
  go_enter Try.func55, Try.ntmps55
  go_wp2_with fail
  generalize (((w.alloc (.cells #[.func (.func rd) #[] #[]] 96)).alloc (.cells #[.string a] 9)).alloc (.cells #[.func (.func tn) #[] caps] 95)) = V0 at *
  refine (C.out V0 _ _ _ Jp1.out Jp2.out Jp3.out B.out).mono ?_
  rintro e V1 ⟨rfl, hb⟩
  replace B := aB B hb
  clear hb
  go_wp2_with fail
  go_ret2
  exact ⟨rfl, B.out⟩
set_option maxRecDepth 100000 in
set_option maxHeartbeats 2000000 in
theorem withTwo_any {w : World} {z c : Int} {t : ByteArray} {rd rd2 tn : Nat} {caps : Array Value} {a b : ByteArray}
    (C : Hid (∀ W q1 q2 q3, IHolds W q1 96 [.func (.func rd2) #[] #[]] → IHolds W q2 9 [.string b] → IHolds W q3 87 [.func (.func tn) #[] caps] → Below w.heap.size w W → Calls Try.prog 55 #[.int .i64 z, .func (.func rd) #[] #[], .string a, .func (.func 57) #[] #[.pointer (some ⟨q1, 0, none⟩), .pointer (some ⟨q2, 0, none⟩), .pointer (some ⟨q3, 0, none⟩)]] W fun e w' => e = .returned (.tuple #[.string t, .int .i64 c]) ∧ Below W.heap.size W w')) :
    Calls Try.prog 48 #[.int .i64 z, .func (.func rd) #[] #[], .string a, .func (.func rd2) #[] #[], .string b, .func (.func tn) #[] caps] w fun e w' => e = .returned (.tuple #[.string t, .int .i64 c]) ∧ Below w.heap.size w w' := by
  have Jq1 : Hid (IHolds (((w.alloc (.cells #[.func (.func rd2) #[] #[]] 96)).alloc (.cells #[.string b] 9)).alloc (.cells #[.func (.func tn) #[] caps] 87)) (w.heap.size) 96 [.func (.func rd2) #[] #[]]) := by
    have q := IHolds.new w 96 [.func (.func rd2) #[] #[]]
    exact ((q.alloc _).alloc _)
  have Jq2 : Hid (IHolds (((w.alloc (.cells #[.func (.func rd2) #[] #[]] 96)).alloc (.cells #[.string b] 9)).alloc (.cells #[.func (.func tn) #[] caps] 87)) (w.heap.size + 1) 9 [.string b]) := by
    have q := IHolds.new (w.alloc (.cells #[.func (.func rd2) #[] #[]] 96)) 9 [.string b]
    simp only [World.size_alloc, Nat.add_assoc, Nat.reduceAdd] at q
    exact (q.alloc _)
  have Jq3 : Hid (IHolds (((w.alloc (.cells #[.func (.func rd2) #[] #[]] 96)).alloc (.cells #[.string b] 9)).alloc (.cells #[.func (.func tn) #[] caps] 87)) (w.heap.size + 2) 87 [.func (.func tn) #[] caps]) := by
    have q := IHolds.new ((w.alloc (.cells #[.func (.func rd2) #[] #[]] 96)).alloc (.cells #[.string b] 9)) 87 [.func (.func tn) #[] caps]
    simp only [World.size_alloc, Nat.add_assoc, Nat.reduceAdd] at q
    exact q
  have B : Hid (Below w.heap.size w (((w.alloc (.cells #[.func (.func rd2) #[] #[]] 96)).alloc (.cells #[.string b] 9)).alloc (.cells #[.func (.func tn) #[] caps] 87))) := ((((Below.refl _ w).alloc (Nat.le_refl _) _).alloc (by simp only [World.size_alloc]; omega) _).alloc (by simp only [World.size_alloc]; omega) _)
  go_enter Try.func48, Try.ntmps48
  go_wp2_with fail
  generalize (((w.alloc (.cells #[.func (.func rd2) #[] #[]] 96)).alloc (.cells #[.string b] 9)).alloc (.cells #[.func (.func tn) #[] caps] 87)) = V0 at *
  refine (C.out V0 _ _ _ Jq1.out Jq2.out Jq3.out B.out).mono ?_
  rintro e V1 ⟨rfl, hb⟩
  replace B := aB B hb
  clear hb
  go_wp2_with fail
  go_ret2
  exact ⟨rfl, B.out⟩
set_option maxRecDepth 100000 in
set_option maxHeartbeats 2000000 in
theorem reckon_any {w : World} {z c : Int} {t : ByteArray} {how : Nat} {a b : ByteArray}
    (C : Hid (∀ W r1, IHolds W r1 77 [.func (.func how) #[] #[]] → Below w.heap.size w W → Calls Try.prog 48 #[.int .i64 z, .func (.func 32) #[] #[], .string a, .func (.func 32) #[] #[], .string b, .func (.func 49) #[] #[.pointer (some ⟨r1, 0, none⟩)]] W fun e w' => e = .returned (.tuple #[.string t, .int .i64 c]) ∧ Below W.heap.size W w')) :
    Calls Try.prog 38 #[.int .i64 z, .string a, .string b, .func (.func how) #[] #[]] w fun e w' => e = .returned (.tuple #[.string t, .int .i64 c]) ∧ Below w.heap.size w w' := by
  have Jr1 : Hid (IHolds (w.alloc (.cells #[.func (.func how) #[] #[]] 77)) (w.heap.size) 77 [.func (.func how) #[] #[]]) := by
    have q := IHolds.new w 77 [.func (.func how) #[] #[]]
    exact q
  have B : Hid (Below w.heap.size w (w.alloc (.cells #[.func (.func how) #[] #[]] 77))) := ((Below.refl _ w).alloc (Nat.le_refl _) _)
  go_enter Try.func38, Try.ntmps38
  go_wp2_with fail
  generalize (w.alloc (.cells #[.func (.func how) #[] #[]] 77)) = V0 at *
  refine (C.out V0 _ Jr1.out B.out).mono ?_
  rintro e V1 ⟨rfl, hb⟩
  replace B := aB B hb
  clear hb
  go_wp2_with fail
  go_ret2
  exact ⟨rfl, B.out⟩
set_option maxRecDepth 100000 in
set_option maxHeartbeats 2000000 in
theorem inv_face {w : World} {z c : Int} {t : ByteArray} {a : ByteArray}
    (C : Hid (Calls Try.prog 55 #[.int .i64 z, .func (.func 32) #[] #[], .string a, .func (.func 56) #[] #[]] w fun e w' => e = .returned (.tuple #[.string t, .int .i64 c]) ∧ Below w.heap.size w w')) :
    Calls Try.prog 47 #[.int .i64 z, .string a] w fun e w' => e = .returned (.tuple #[.string t, .int .i64 c]) ∧ Below w.heap.size w w' := by
  go_enter Try.func47, Try.ntmps47
  go_wp2_with fail
  refine C.out.mono ?_
  rintro e V1 ⟨rfl, hb⟩
  have B : Hid (Below w.heap.size w V1) := hb
  clear hb
  go_wp2_with fail
  go_ret2
  exact ⟨rfl, B.out⟩
set_option maxRecDepth 100000 in
set_option maxHeartbeats 2000000 in
theorem add_face {w : World} {z c : Int} {t : ByteArray} {a b : ByteArray}
    (C : Hid (Calls Try.prog 38 #[.int .i64 z, .string a, .string b, .func (.func 39) #[] #[]] w fun e w' => e = .returned (.tuple #[.string t, .int .i64 c]) ∧ Below w.heap.size w w')) :
    Calls Try.prog 25 #[.int .i64 z, .string a, .string b] w fun e w' => e = .returned (.tuple #[.string t, .int .i64 c]) ∧ Below w.heap.size w w' := by
  go_enter Try.func25, Try.ntmps25
  go_wp2_with fail
  refine C.out.mono ?_
  rintro e V1 ⟨rfl, hb⟩
  have B : Hid (Below w.heap.size w V1) := hb
  clear hb
  go_wp2_with fail
  go_ret2
  exact ⟨rfl, B.out⟩
set_option maxRecDepth 100000 in
set_option maxHeartbeats 2000000 in
theorem mul_face {w : World} {z c : Int} {t : ByteArray} {a b : ByteArray}
    (C : Hid (Calls Try.prog 38 #[.int .i64 z, .string a, .string b, .func (.func 40) #[] #[]] w fun e w' => e = .returned (.tuple #[.string t, .int .i64 c]) ∧ Below w.heap.size w w')) :
    Calls Try.prog 26 #[.int .i64 z, .string a, .string b] w fun e w' => e = .returned (.tuple #[.string t, .int .i64 c]) ∧ Below w.heap.size w w' := by
  go_enter Try.func26, Try.ntmps26
  go_wp2_with fail
  refine C.out.mono ?_
  rintro e V1 ⟨rfl, hb⟩
  have B : Hid (Below w.heap.size w V1) := hb
  clear hb
  go_wp2_with fail
  go_ret2
  exact ⟨rfl, B.out⟩
end Go.Proofs.Ythdffjboaicopaa
