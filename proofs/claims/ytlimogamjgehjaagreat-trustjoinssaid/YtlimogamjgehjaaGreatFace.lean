/- withOne, withTwo, reckon, and the faces that hang on them. -/
import Derived.Test.YtlimogamjgehjaaGreatWith
set_option linter.unusedSimpArgs false
set_option linter.unusedVariables false
namespace Go.Proofs.YtlimogamjgehjaaGreat
open Go.RowKit Go.Deep Go.PlainAid

set_option maxRecDepth 100000 in
set_option maxHeartbeats 2000000 in
theorem withOne_any {w : World} {z c : Int} {t : ByteArray} {rd tn : Nat} {caps : Array Value} {a : ByteArray}
    (C : Hid (∀ W p1 p2 p3, IHolds W p1 122 [.func (.func rd) #[] #[]] → IHolds W p2 9 [.string a] → IHolds W p3 114 [.func (.func tn) #[] caps] → Below w.heap.size w W → Calls Tryz.prog 74 #[.int .i64 z, .func (.func 100) #[] #[.pointer (some ⟨p1, 0, none⟩), .pointer (some ⟨p2, 0, none⟩), .pointer (some ⟨p3, 0, none⟩)]] W fun e w' => e = .returned (.tuple #[.string t, .int .i64 c]) ∧ Below W.heap.size W w')) :
    Calls Tryz.prog 86 #[.int .i64 z, .func (.func rd) #[] #[], .string a, .func (.func tn) #[] caps] w fun e w' => e = .returned (.tuple #[.string t, .int .i64 c]) ∧ Below w.heap.size w w' := by
  have Jp1 : Hid (IHolds (((w.alloc (.cells #[.func (.func rd) #[] #[]] 122)).alloc (.cells #[.string a] 9)).alloc (.cells #[.func (.func tn) #[] caps] 114)) (w.heap.size) 122 [.func (.func rd) #[] #[]]) := by
    have q := IHolds.new w 122 [.func (.func rd) #[] #[]]
    exact ((q.alloc _).alloc _)
  have Jp2 : Hid (IHolds (((w.alloc (.cells #[.func (.func rd) #[] #[]] 122)).alloc (.cells #[.string a] 9)).alloc (.cells #[.func (.func tn) #[] caps] 114)) (w.heap.size + 1) 9 [.string a]) := by
    have q := IHolds.new (w.alloc (.cells #[.func (.func rd) #[] #[]] 122)) 9 [.string a]
    simp only [World.size_alloc, Nat.add_assoc, Nat.reduceAdd] at q
    exact (q.alloc _)
  have Jp3 : Hid (IHolds (((w.alloc (.cells #[.func (.func rd) #[] #[]] 122)).alloc (.cells #[.string a] 9)).alloc (.cells #[.func (.func tn) #[] caps] 114)) (w.heap.size + 2) 114 [.func (.func tn) #[] caps]) := by
    have q := IHolds.new ((w.alloc (.cells #[.func (.func rd) #[] #[]] 122)).alloc (.cells #[.string a] 9)) 114 [.func (.func tn) #[] caps]
    simp only [World.size_alloc, Nat.add_assoc, Nat.reduceAdd] at q
    exact q
  have B : Hid (Below w.heap.size w (((w.alloc (.cells #[.func (.func rd) #[] #[]] 122)).alloc (.cells #[.string a] 9)).alloc (.cells #[.func (.func tn) #[] caps] 114))) := ((((Below.refl _ w).alloc (Nat.le_refl _) _).alloc (by simp only [World.size_alloc]; omega) _).alloc (by simp only [World.size_alloc]; omega) _)
  go_enter Tryz.func86, Tryz.ntmps86
  go_wp2_with fail
  generalize (((w.alloc (.cells #[.func (.func rd) #[] #[]] 122)).alloc (.cells #[.string a] 9)).alloc (.cells #[.func (.func tn) #[] caps] 114)) = V0 at *
  refine (C.out V0 _ _ _ Jp1.out Jp2.out Jp3.out B.out).mono ?_
  rintro e V1 ⟨rfl, hb⟩
  replace B := aB B hb
  clear hb
  go_wp2_with fail
  go_ret2
  exact ⟨rfl, B.out⟩
set_option maxRecDepth 100000 in
set_option maxHeartbeats 2000000 in
theorem withTwo_any {w : World} {z c : Int} {t : ByteArray} {rd rd2 tn : Nat} {caps : Array Value} {a b : ByteArray}
    (C : Hid (∀ W q1 q2 q3, IHolds W q1 122 [.func (.func rd2) #[] #[]] → IHolds W q2 9 [.string b] → IHolds W q3 118 [.func (.func tn) #[] caps] → Below w.heap.size w W → Calls Tryz.prog 86 #[.int .i64 z, .func (.func rd) #[] #[], .string a, .func (.func 104) #[] #[.pointer (some ⟨q1, 0, none⟩), .pointer (some ⟨q2, 0, none⟩), .pointer (some ⟨q3, 0, none⟩)]] W fun e w' => e = .returned (.tuple #[.string t, .int .i64 c]) ∧ Below W.heap.size W w')) :
    Calls Tryz.prog 93 #[.int .i64 z, .func (.func rd) #[] #[], .string a, .func (.func rd2) #[] #[], .string b, .func (.func tn) #[] caps] w fun e w' => e = .returned (.tuple #[.string t, .int .i64 c]) ∧ Below w.heap.size w w' := by
  have Jq1 : Hid (IHolds (((w.alloc (.cells #[.func (.func rd2) #[] #[]] 122)).alloc (.cells #[.string b] 9)).alloc (.cells #[.func (.func tn) #[] caps] 118)) (w.heap.size) 122 [.func (.func rd2) #[] #[]]) := by
    have q := IHolds.new w 122 [.func (.func rd2) #[] #[]]
    exact ((q.alloc _).alloc _)
  have Jq2 : Hid (IHolds (((w.alloc (.cells #[.func (.func rd2) #[] #[]] 122)).alloc (.cells #[.string b] 9)).alloc (.cells #[.func (.func tn) #[] caps] 118)) (w.heap.size + 1) 9 [.string b]) := by
    have q := IHolds.new (w.alloc (.cells #[.func (.func rd2) #[] #[]] 122)) 9 [.string b]
    simp only [World.size_alloc, Nat.add_assoc, Nat.reduceAdd] at q
    exact (q.alloc _)
  have Jq3 : Hid (IHolds (((w.alloc (.cells #[.func (.func rd2) #[] #[]] 122)).alloc (.cells #[.string b] 9)).alloc (.cells #[.func (.func tn) #[] caps] 118)) (w.heap.size + 2) 118 [.func (.func tn) #[] caps]) := by
    have q := IHolds.new ((w.alloc (.cells #[.func (.func rd2) #[] #[]] 122)).alloc (.cells #[.string b] 9)) 118 [.func (.func tn) #[] caps]
    simp only [World.size_alloc, Nat.add_assoc, Nat.reduceAdd] at q
    exact q
  have B : Hid (Below w.heap.size w (((w.alloc (.cells #[.func (.func rd2) #[] #[]] 122)).alloc (.cells #[.string b] 9)).alloc (.cells #[.func (.func tn) #[] caps] 118))) := ((((Below.refl _ w).alloc (Nat.le_refl _) _).alloc (by simp only [World.size_alloc]; omega) _).alloc (by simp only [World.size_alloc]; omega) _)
  go_enter Tryz.func93, Tryz.ntmps93
  go_wp2_with fail
  generalize (((w.alloc (.cells #[.func (.func rd2) #[] #[]] 122)).alloc (.cells #[.string b] 9)).alloc (.cells #[.func (.func tn) #[] caps] 118)) = V0 at *
  refine (C.out V0 _ _ _ Jq1.out Jq2.out Jq3.out B.out).mono ?_
  rintro e V1 ⟨rfl, hb⟩
  replace B := aB B hb
  clear hb
  go_wp2_with fail
  go_ret2
  exact ⟨rfl, B.out⟩
set_option maxRecDepth 100000 in
set_option maxHeartbeats 2000000 in
theorem reckon_any {w : World} {z c : Int} {t : ByteArray} {how : Nat} {a b : ByteArray}
    (C : Hid (∀ W r1, IHolds W r1 106 [.func (.func how) #[] #[]] → Below w.heap.size w W → Calls Tryz.prog 93 #[.int .i64 z, .func (.func 73) #[] #[], .string a, .func (.func 73) #[] #[], .string b, .func (.func 94) #[] #[.pointer (some ⟨r1, 0, none⟩)]] W fun e w' => e = .returned (.tuple #[.string t, .int .i64 c]) ∧ Below W.heap.size W w')) :
    Calls Tryz.prog 78 #[.int .i64 z, .string a, .string b, .func (.func how) #[] #[]] w fun e w' => e = .returned (.tuple #[.string t, .int .i64 c]) ∧ Below w.heap.size w w' := by
  have Jr1 : Hid (IHolds (w.alloc (.cells #[.func (.func how) #[] #[]] 106)) (w.heap.size) 106 [.func (.func how) #[] #[]]) := by
    have q := IHolds.new w 106 [.func (.func how) #[] #[]]
    exact q
  have B : Hid (Below w.heap.size w (w.alloc (.cells #[.func (.func how) #[] #[]] 106))) := ((Below.refl _ w).alloc (Nat.le_refl _) _)
  go_enter Tryz.func78, Tryz.ntmps78
  go_wp2_with fail
  generalize (w.alloc (.cells #[.func (.func how) #[] #[]] 106)) = V0 at *
  refine (C.out V0 _ Jr1.out B.out).mono ?_
  rintro e V1 ⟨rfl, hb⟩
  replace B := aB B hb
  clear hb
  go_wp2_with fail
  go_ret2
  exact ⟨rfl, B.out⟩
set_option maxRecDepth 100000 in
set_option maxHeartbeats 2000000 in
theorem inv_face {w : World} {z c : Int} {t : ByteArray} {a : ByteArray}
    (C : Hid (Calls Tryz.prog 86 #[.int .i64 z, .func (.func 73) #[] #[], .string a, .func (.func 87) #[] #[]] w fun e w' => e = .returned (.tuple #[.string t, .int .i64 c]) ∧ Below w.heap.size w w')) :
    Calls Tryz.prog 70 #[.int .i64 z, .string a] w fun e w' => e = .returned (.tuple #[.string t, .int .i64 c]) ∧ Below w.heap.size w w' := by
  go_enter Tryz.func70, Tryz.ntmps70
  go_wp2_with fail
  refine C.out.mono ?_
  rintro e V1 ⟨rfl, hb⟩
  have B : Hid (Below w.heap.size w V1) := hb
  clear hb
  go_wp2_with fail
  go_ret2
  exact ⟨rfl, B.out⟩
set_option maxRecDepth 100000 in
set_option maxHeartbeats 2000000 in
theorem add_face {w : World} {z c : Int} {t : ByteArray} {a b : ByteArray}
    (C : Hid (Calls Tryz.prog 78 #[.int .i64 z, .string a, .string b, .func (.func 79) #[] #[]] w fun e w' => e = .returned (.tuple #[.string t, .int .i64 c]) ∧ Below w.heap.size w w')) :
    Calls Tryz.prog 61 #[.int .i64 z, .string a, .string b] w fun e w' => e = .returned (.tuple #[.string t, .int .i64 c]) ∧ Below w.heap.size w w' := by
  go_enter Tryz.func61, Tryz.ntmps61
  go_wp2_with fail
  refine C.out.mono ?_
  rintro e V1 ⟨rfl, hb⟩
  have B : Hid (Below w.heap.size w V1) := hb
  clear hb
  go_wp2_with fail
  go_ret2
  exact ⟨rfl, B.out⟩
set_option maxRecDepth 100000 in
set_option maxHeartbeats 2000000 in
theorem mul_face {w : World} {z c : Int} {t : ByteArray} {a b : ByteArray}
    (C : Hid (Calls Tryz.prog 78 #[.int .i64 z, .string a, .string b, .func (.func 80) #[] #[]] w fun e w' => e = .returned (.tuple #[.string t, .int .i64 c]) ∧ Below w.heap.size w w')) :
    Calls Tryz.prog 62 #[.int .i64 z, .string a, .string b] w fun e w' => e = .returned (.tuple #[.string t, .int .i64 c]) ∧ Below w.heap.size w w' := by
  go_enter Tryz.func62, Tryz.ntmps62
  go_wp2_with fail
  refine C.out.mono ?_
  rintro e V1 ⟨rfl, hb⟩
  have B : Hid (Below w.heap.size w V1) := hb
  clear hb
  go_wp2_with fail
  go_ret2
  exact ⟨rfl, B.out⟩
end Go.Proofs.YtlimogamjgehjaaGreat
