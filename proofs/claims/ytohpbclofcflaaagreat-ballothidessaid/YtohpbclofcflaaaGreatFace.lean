/- withOne, withTwo, reckon, and the faces that hang on them. -/
import Derived.Test.YtohpbclofcflaaaGreatWith
set_option linter.unusedSimpArgs false
set_option linter.unusedVariables false
namespace Go.Proofs.YtohpbclofcflaaaGreat
open Go.RowKit Go.Deep Go.PlainAid

set_option maxRecDepth 100000 in
set_option maxHeartbeats 2000000 in
theorem withOne_any {w : World} {z c : Int} {t : ByteArray} {rd tn : Nat} {caps : Array Value} {a : ByteArray}
    (C : Hid (∀ W p1 p2 p3, IHolds W p1 124 [.func (.func rd) #[] #[]] → IHolds W p2 9 [.string a] → IHolds W p3 116 [.func (.func tn) #[] caps] → Below w.heap.size w W → Calls Tryz.prog 58 #[.int .i64 z, .func (.func 101) #[] #[.pointer (some ⟨p1, 0, none⟩), .pointer (some ⟨p2, 0, none⟩), .pointer (some ⟨p3, 0, none⟩)]] W fun e w' => e = .returned (.tuple #[.string t, .int .i64 c]) ∧ Below W.heap.size W w')) :
    Calls Tryz.prog 87 #[.int .i64 z, .func (.func rd) #[] #[], .string a, .func (.func tn) #[] caps] w fun e w' => e = .returned (.tuple #[.string t, .int .i64 c]) ∧ Below w.heap.size w w' := by
  have Jp1 : Hid (IHolds (((w.alloc (.cells #[.func (.func rd) #[] #[]] 124)).alloc (.cells #[.string a] 9)).alloc (.cells #[.func (.func tn) #[] caps] 116)) (w.heap.size) 124 [.func (.func rd) #[] #[]]) := by
    have q := IHolds.new w 124 [.func (.func rd) #[] #[]]
    exact ((q.alloc _).alloc _)
  have Jp2 : Hid (IHolds (((w.alloc (.cells #[.func (.func rd) #[] #[]] 124)).alloc (.cells #[.string a] 9)).alloc (.cells #[.func (.func tn) #[] caps] 116)) (w.heap.size + 1) 9 [.string a]) := by
    have q := IHolds.new (w.alloc (.cells #[.func (.func rd) #[] #[]] 124)) 9 [.string a]
    simp only [World.size_alloc, Nat.add_assoc, Nat.reduceAdd] at q
    exact (q.alloc _)
  have Jp3 : Hid (IHolds (((w.alloc (.cells #[.func (.func rd) #[] #[]] 124)).alloc (.cells #[.string a] 9)).alloc (.cells #[.func (.func tn) #[] caps] 116)) (w.heap.size + 2) 116 [.func (.func tn) #[] caps]) := by
    have q := IHolds.new ((w.alloc (.cells #[.func (.func rd) #[] #[]] 124)).alloc (.cells #[.string a] 9)) 116 [.func (.func tn) #[] caps]
    simp only [World.size_alloc, Nat.add_assoc, Nat.reduceAdd] at q
    exact q
  have B : Hid (Below w.heap.size w (((w.alloc (.cells #[.func (.func rd) #[] #[]] 124)).alloc (.cells #[.string a] 9)).alloc (.cells #[.func (.func tn) #[] caps] 116))) := ((((Below.refl _ w).alloc (Nat.le_refl _) _).alloc (by simp only [World.size_alloc]; omega) _).alloc (by simp only [World.size_alloc]; omega) _)
  go_enter Tryz.func87, Tryz.ntmps87
  go_wp2_with fail
  generalize (((w.alloc (.cells #[.func (.func rd) #[] #[]] 124)).alloc (.cells #[.string a] 9)).alloc (.cells #[.func (.func tn) #[] caps] 116)) = V0 at *
  refine (C.out V0 _ _ _ Jp1.out Jp2.out Jp3.out B.out).mono ?_
  rintro e V1 ⟨rfl, hb⟩
  replace B := aB B hb
  clear hb
  go_wp2_with fail
  go_ret2
  exact ⟨rfl, B.out⟩
set_option maxRecDepth 100000 in
set_option maxHeartbeats 2000000 in
theorem withTwo_any {w : World} {z c : Int} {t : ByteArray} {rd rd2 tn : Nat} {caps : Array Value} {a b : ByteArray}
    (C : Hid (∀ W q1 q2 q3, IHolds W q1 124 [.func (.func rd2) #[] #[]] → IHolds W q2 9 [.string b] → IHolds W q3 109 [.func (.func tn) #[] caps] → Below w.heap.size w W → Calls Tryz.prog 87 #[.int .i64 z, .func (.func rd) #[] #[], .string a, .func (.func 96) #[] #[.pointer (some ⟨q1, 0, none⟩), .pointer (some ⟨q2, 0, none⟩), .pointer (some ⟨q3, 0, none⟩)]] W fun e w' => e = .returned (.tuple #[.string t, .int .i64 c]) ∧ Below W.heap.size W w')) :
    Calls Tryz.prog 79 #[.int .i64 z, .func (.func rd) #[] #[], .string a, .func (.func rd2) #[] #[], .string b, .func (.func tn) #[] caps] w fun e w' => e = .returned (.tuple #[.string t, .int .i64 c]) ∧ Below w.heap.size w w' := by
  have Jq1 : Hid (IHolds (((w.alloc (.cells #[.func (.func rd2) #[] #[]] 124)).alloc (.cells #[.string b] 9)).alloc (.cells #[.func (.func tn) #[] caps] 109)) (w.heap.size) 124 [.func (.func rd2) #[] #[]]) := by
    have q := IHolds.new w 124 [.func (.func rd2) #[] #[]]
    exact ((q.alloc _).alloc _)
  have Jq2 : Hid (IHolds (((w.alloc (.cells #[.func (.func rd2) #[] #[]] 124)).alloc (.cells #[.string b] 9)).alloc (.cells #[.func (.func tn) #[] caps] 109)) (w.heap.size + 1) 9 [.string b]) := by
    have q := IHolds.new (w.alloc (.cells #[.func (.func rd2) #[] #[]] 124)) 9 [.string b]
    simp only [World.size_alloc, Nat.add_assoc, Nat.reduceAdd] at q
    exact (q.alloc _)
  have Jq3 : Hid (IHolds (((w.alloc (.cells #[.func (.func rd2) #[] #[]] 124)).alloc (.cells #[.string b] 9)).alloc (.cells #[.func (.func tn) #[] caps] 109)) (w.heap.size + 2) 109 [.func (.func tn) #[] caps]) := by
    have q := IHolds.new ((w.alloc (.cells #[.func (.func rd2) #[] #[]] 124)).alloc (.cells #[.string b] 9)) 109 [.func (.func tn) #[] caps]
    simp only [World.size_alloc, Nat.add_assoc, Nat.reduceAdd] at q
    exact q
  have B : Hid (Below w.heap.size w (((w.alloc (.cells #[.func (.func rd2) #[] #[]] 124)).alloc (.cells #[.string b] 9)).alloc (.cells #[.func (.func tn) #[] caps] 109))) := ((((Below.refl _ w).alloc (Nat.le_refl _) _).alloc (by simp only [World.size_alloc]; omega) _).alloc (by simp only [World.size_alloc]; omega) _)
  go_enter Tryz.func79, Tryz.ntmps79
  go_wp2_with fail
  generalize (((w.alloc (.cells #[.func (.func rd2) #[] #[]] 124)).alloc (.cells #[.string b] 9)).alloc (.cells #[.func (.func tn) #[] caps] 109)) = V0 at *
  refine (C.out V0 _ _ _ Jq1.out Jq2.out Jq3.out B.out).mono ?_
  rintro e V1 ⟨rfl, hb⟩
  replace B := aB B hb
  clear hb
  go_wp2_with fail
  go_ret2
  exact ⟨rfl, B.out⟩
set_option maxRecDepth 100000 in
set_option maxHeartbeats 2000000 in
theorem under_face {w : World} {z c : Int} {t : ByteArray} {a : ByteArray}
    (C : Hid (Calls Tryz.prog 87 #[.int .i64 z, .func (.func 55) #[] #[], .string a, .func (.func 88) #[] #[]] w fun e w' => e = .returned (.tuple #[.string t, .int .i64 c]) ∧ Below w.heap.size w w')) :
    Calls Tryz.prog 71 #[.int .i64 z, .string a] w fun e w' => e = .returned (.tuple #[.string t, .int .i64 c]) ∧ Below w.heap.size w w' := by
  go_enter Tryz.func71, Tryz.ntmps71
  go_wp2_with fail
  refine C.out.mono ?_
  rintro e V1 ⟨rfl, hb⟩
  have B : Hid (Below w.heap.size w V1) := hb
  clear hb
  go_wp2_with fail
  go_ret2
  exact ⟨rfl, B.out⟩
set_option maxRecDepth 100000 in
set_option maxHeartbeats 2000000 in
theorem times_face {w : World} {z c : Int} {t : ByteArray} {a b : ByteArray}
    (C : Hid (Calls Tryz.prog 79 #[.int .i64 z, .func (.func 55) #[] #[], .string a, .func (.func 55) #[] #[], .string b, .func (.func 83) #[] #[]] w fun e w' => e = .returned (.tuple #[.string t, .int .i64 c]) ∧ Below w.heap.size w w')) :
    Calls Tryz.prog 67 #[.int .i64 z, .string a, .string b] w fun e w' => e = .returned (.tuple #[.string t, .int .i64 c]) ∧ Below w.heap.size w w' := by
  go_enter Tryz.func67, Tryz.ntmps67
  go_wp2_with fail
  refine C.out.mono ?_
  rintro e V1 ⟨rfl, hb⟩
  have B : Hid (Below w.heap.size w V1) := hb
  clear hb
  go_wp2_with fail
  go_ret2
  exact ⟨rfl, B.out⟩
set_option maxRecDepth 100000 in
set_option maxHeartbeats 2000000 in
theorem power_face {w : World} {z c : Int} {t : ByteArray} {a b : ByteArray}
    (C : Hid (Calls Tryz.prog 79 #[.int .i64 z, .func (.func 55) #[] #[], .string a, .func (.func 57) #[] #[], .string b, .func (.func 80) #[] #[]] w fun e w' => e = .returned (.tuple #[.string t, .int .i64 c]) ∧ Below w.heap.size w w')) :
    Calls Tryz.prog 62 #[.int .i64 z, .string a, .string b] w fun e w' => e = .returned (.tuple #[.string t, .int .i64 c]) ∧ Below w.heap.size w w' := by
  go_enter Tryz.func62, Tryz.ntmps62
  go_wp2_with fail
  refine C.out.mono ?_
  rintro e V1 ⟨rfl, hb⟩
  have B : Hid (Below w.heap.size w V1) := hb
  clear hb
  go_wp2_with fail
  go_ret2
  exact ⟨rfl, B.out⟩
end Go.Proofs.YtohpbclofcflaaaGreat
