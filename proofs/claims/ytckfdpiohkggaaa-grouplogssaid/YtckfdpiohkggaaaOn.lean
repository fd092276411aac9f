/- What is told of a kind: Sizes, Order, Prime, Base. -/
import Derived.Test.YtckfdpiohkggaaaGround
set_option linter.unusedSimpArgs false
set_option linter.unusedVariables false
namespace Go.Proofs.Ytckfdpiohkggaaa
open Go.RowKit Go.Deep Go.PlainAid

set_option maxRecDepth 100000 in
set_option maxHeartbeats 2000000 in
theorem sizes_any {w : World} {g S : Nat} (c0 : w.cell? ⟨g, 0, none⟩ = some (.int .i64 (S : Int))) :
    Calls Try.prog 47 #[.pointer (some ⟨g, 0, none⟩)] w fun e w' => e = .returned (.tuple #[.int .i64 (S : Int), .int .i64 0]) ∧ Below w.heap.size w w' := by
  go_enter Try.func47, Try.ntmps47
  go_wp2_with fail
  go_ret2
  exact ⟨rfl, Below.refl _ _⟩
set_option maxRecDepth 100000 in
set_option maxHeartbeats 2000000 in
theorem order_any {w : World} {g S x0 x1 x2 x3 : Nat} (c0 : w.cell? ⟨g, 0, none⟩ = some (.int .i64 (S : Int))) (c2 : w.cell? ⟨g, 2, none⟩ = some (U x0)) (c3 : w.cell? ⟨g, 3, none⟩ = some (U x1)) (c4 : w.cell? ⟨g, 4, none⟩ = some (U x2)) (c5 : w.cell? ⟨g, 5, none⟩ = some (U x3)) (h0 : x0 < 18446744073709551616) (h1 : x1 < 18446744073709551616) (h2 : x2 < 18446744073709551616) (h3 : x3 < 18446744073709551616) (hS : S ≤ 32) :
    Calls Try.prog 49 #[.pointer (some ⟨g, 0, none⟩)] w fun e w' => e = .returned (.tuple #[.string ⟨(beB S (NB x0 x1 x2 x3)).toArray⟩, .int .i64 0]) ∧ Below w.heap.size w w' := by
  have C : Hid (Calls Try.prog 53 #[.pointer (some ⟨g, 0, none⟩), .agg #[U x0, U x1, U x2, U x3]] w fun e w' => e = .returned (.tuple #[.string ⟨(beB S (NB x0 x1 x2 x3)).toArray⟩, .int .i64 0]) ∧ Below w.heap.size w w') := told_any c0 h0 h1 h2 h3 hS
  generalize (⟨(beB S (NB x0 x1 x2 x3)).toArray⟩ : ByteArray) = T at *
  go_enter Try.func49, Try.ntmps49
  go_wp2_with fail
  refine C.out.mono ?_
  rintro e U1 ⟨rfl, hb⟩
  have B : Hid (Below w.heap.size w U1) := hb
  clear hb
  go_wp2_with fail
  go_ret2
  exact ⟨rfl, B.out⟩
set_option maxRecDepth 100000 in
set_option maxHeartbeats 2000000 in
theorem prime_any {w : World} {g S x0 x1 x2 x3 : Nat} (c0 : w.cell? ⟨g, 0, none⟩ = some (.int .i64 (S : Int))) (c16 : w.cell? ⟨g, 16, none⟩ = some (U x0)) (c17 : w.cell? ⟨g, 17, none⟩ = some (U x1)) (c18 : w.cell? ⟨g, 18, none⟩ = some (U x2)) (c19 : w.cell? ⟨g, 19, none⟩ = some (U x3)) (h0 : x0 < 18446744073709551616) (h1 : x1 < 18446744073709551616) (h2 : x2 < 18446744073709551616) (h3 : x3 < 18446744073709551616) (hS : S ≤ 32) :
    Calls Try.prog 50 #[.pointer (some ⟨g, 0, none⟩)] w fun e w' => e = .returned (.tuple #[.string ⟨(beB S (NB x0 x1 x2 x3)).toArray⟩, .int .i64 0]) ∧ Below w.heap.size w w' := by
  have C : Hid (Calls Try.prog 53 #[.pointer (some ⟨g, 0, none⟩), .agg #[U x0, U x1, U x2, U x3]] w fun e w' => e = .returned (.tuple #[.string ⟨(beB S (NB x0 x1 x2 x3)).toArray⟩, .int .i64 0]) ∧ Below w.heap.size w w') := told_any c0 h0 h1 h2 h3 hS
  generalize (⟨(beB S (NB x0 x1 x2 x3)).toArray⟩ : ByteArray) = T at *
  go_enter Try.func50, Try.ntmps50
  go_wp2_with fail
  refine C.out.mono ?_
  rintro e U1 ⟨rfl, hb⟩
  have B : Hid (Below w.heap.size w U1) := hb
  clear hb
  go_wp2_with fail
  go_ret2
  exact ⟨rfl, B.out⟩
set_option maxRecDepth 100000 in
set_option maxHeartbeats 2000000 in
theorem base_any {w : World} {g S  : Nat} (c0 : w.cell? ⟨g, 0, none⟩ = some (.int .i64 (S : Int)))   (hS : S ≤ 32) :
    Calls Try.prog 51 #[.pointer (some ⟨g, 0, none⟩)] w fun e w' => e = .returned (.tuple #[.string ⟨(beB S (NB 2 0 0 0)).toArray⟩, .int .i64 0]) ∧ Below w.heap.size w w' := by
  have C : Hid (Calls Try.prog 53 #[.pointer (some ⟨g, 0, none⟩), .agg #[U 2, U 0, U 0, U 0]] w fun e w' => e = .returned (.tuple #[.string ⟨(beB S (NB 2 0 0 0)).toArray⟩, .int .i64 0]) ∧ Below w.heap.size w w') := told_any c0 (by omega) (by omega) (by omega) (by omega) hS
  generalize (⟨(beB S (NB 2 0 0 0)).toArray⟩ : ByteArray) = T at *
  go_enter Try.func51, Try.ntmps51
  go_wp2_with fail
  refine C.out.mono ?_
  rintro e U1 ⟨rfl, hb⟩
  have B : Hid (Below w.heap.size w U1) := hb
  clear hb
  go_wp2_with fail
  go_ret2
  exact ⟨rfl, B.out⟩
set_option maxRecDepth 100000 in
set_option maxHeartbeats 2000000 in
theorem on46_ok {s : Int} {w : World} {z : Int} {G : Array Value} (hG : gz.size = G.size) (hi : (Try.prog.info? 70).map (·.size) = some G.size) (h1 : G.all (·.oneCell') = true)
    (CG : Hid (∀ W, Calls Try.prog 83 #[.int .i64 z] W fun e w' => e = .returned (.tuple #[.agg G, .bool true]) ∧ Below W.heap.size W w')) (HF : Hid (∀ W g, IHolds W g 70 G.toList → Calls Try.prog 47 #[.pointer (some ⟨g, 0, none⟩)] W fun e w' => e = .returned (.tuple #[.int .i64 s, .int .i64 0]) ∧ Below W.heap.size W w')) :
    Calls Try.prog 46 #[.int .i64 z, .func (.func 47) #[] #[]] w fun e w' => e = .returned (.tuple #[.int .i64 s, .int .i64 0]) ∧ Below w.heap.size w w' := by
  go_enter Try.func46, Try.ntmps46
  go_wp2_with fail
  refine (CG.out w).mono ?_
  rintro e U1 ⟨rfl, hb⟩
  have B : Hid (Below w.heap.size w U1) := hb
  clear hb
  have hg : (U1.alloc (.cells gz 70)).heap[U1.heap.size]? = some (.cells gz 70 (0, 0)) := by
    have h := IHolds.new U1 70 gz.toList
    unfold IHolds at h
    rw [Array.toArray_toList] at h
    exact h
  have J : Hid (IHolds (U1.alloc (.cells G 70)) U1.heap.size 70 G.toList) := by
    have h := IHolds.new U1 70 G.toList
    rw [Array.toArray_toList] at h
    exact h
  replace B := aB B (nB U1 (.cells G 70))
  go_wp2_with (refine wpList_store_row rfl 70 (.tmp 6) (.tmp 12) rfl U1.heap.size G rfl rfl 70 gz hg hi hG h1 ?_; rw [World.setRow_alloc_new]; clear hg)
  generalize U1.alloc (.cells G 70) = U2 at *
  refine (HF.out U2 _ J.out).mono ?_
  rintro e U3 ⟨rfl, hb⟩
  replace B := aB B hb
  clear hb
  go_wp2_with fail
  go_ret2
  exact ⟨rfl, B.out⟩
set_option maxRecDepth 100000 in
set_option maxHeartbeats 2000000 in
theorem on46_no (F : Nat) {w : World} {z : Int} {G : Array Value} (hG : gz.size = G.size) (hi : (Try.prog.info? 70).map (·.size) = some G.size) (h1 : G.all (·.oneCell') = true)
    (CG : Hid (∀ W, Calls Try.prog 83 #[.int .i64 z] W fun e w' => e = .returned (.tuple #[.agg G, .bool false]) ∧ Below W.heap.size W w'))  :
    Calls Try.prog 46 #[.int .i64 z, .func (.func F) #[] #[]] w fun e w' => e = .returned (.tuple #[.int .i64 0, .int .i64 1]) ∧ Below w.heap.size w w' := by
  go_enter Try.func46, Try.ntmps46
  go_wp2_with fail
  refine (CG.out w).mono ?_
  rintro e U1 ⟨rfl, hb⟩
  have B : Hid (Below w.heap.size w U1) := hb
  clear hb
  have hg : (U1.alloc (.cells gz 70)).heap[U1.heap.size]? = some (.cells gz 70 (0, 0)) := by
    have h := IHolds.new U1 70 gz.toList
    unfold IHolds at h
    rw [Array.toArray_toList] at h
    exact h
  have J : Hid (IHolds (U1.alloc (.cells G 70)) U1.heap.size 70 G.toList) := by
    have h := IHolds.new U1 70 G.toList
    rw [Array.toArray_toList] at h
    exact h
  replace B := aB B (nB U1 (.cells G 70))
  go_wp2_with (refine wpList_store_row rfl 70 (.tmp 6) (.tmp 12) rfl U1.heap.size G rfl rfl 70 gz hg hi hG h1 ?_; rw [World.setRow_alloc_new]; clear hg)
  go_ret2
  exact ⟨rfl, B.out⟩
set_option maxRecDepth 100000 in
set_option maxHeartbeats 2000000 in
theorem on48_49 {t : ByteArray} {w : World} {z : Int} {G : Array Value} (hG : gz.size = G.size) (hi : (Try.prog.info? 70).map (·.size) = some G.size) (h1 : G.all (·.oneCell') = true)
    (CG : Hid (∀ W, Calls Try.prog 83 #[.int .i64 z] W fun e w' => e = .returned (.tuple #[.agg G, .bool true]) ∧ Below W.heap.size W w')) (HF : Hid (∀ W g, IHolds W g 70 G.toList → Calls Try.prog 49 #[.pointer (some ⟨g, 0, none⟩)] W fun e w' => e = .returned (.tuple #[.string t, .int .i64 0]) ∧ Below W.heap.size W w')) :
    Calls Try.prog 48 #[.int .i64 z, .func (.func 49) #[] #[]] w fun e w' => e = .returned (.tuple #[.string t, .int .i64 0]) ∧ Below w.heap.size w w' := by
  go_enter Try.func48, Try.ntmps48
  go_wp2_with fail
  refine (CG.out w).mono ?_
  rintro e U1 ⟨rfl, hb⟩
  have B : Hid (Below w.heap.size w U1) := hb
  clear hb
  have hg : (U1.alloc (.cells gz 70)).heap[U1.heap.size]? = some (.cells gz 70 (0, 0)) := by
    have h := IHolds.new U1 70 gz.toList
    unfold IHolds at h
    rw [Array.toArray_toList] at h
    exact h
  have J : Hid (IHolds (U1.alloc (.cells G 70)) U1.heap.size 70 G.toList) := by
    have h := IHolds.new U1 70 G.toList
    rw [Array.toArray_toList] at h
    exact h
  replace B := aB B (nB U1 (.cells G 70))
  go_wp2_with (refine wpList_store_row rfl 70 (.tmp 6) (.tmp 12) rfl U1.heap.size G rfl rfl 70 gz hg hi hG h1 ?_; rw [World.setRow_alloc_new]; clear hg)
  generalize U1.alloc (.cells G 70) = U2 at *
  refine (HF.out U2 _ J.out).mono ?_
  rintro e U3 ⟨rfl, hb⟩
  replace B := aB B hb
  clear hb
  go_wp2_with fail
  go_ret2
  exact ⟨rfl, B.out⟩
set_option maxRecDepth 100000 in
set_option maxHeartbeats 2000000 in
theorem on48_50 {t : ByteArray} {w : World} {z : Int} {G : Array Value} (hG : gz.size = G.size) (hi : (Try.prog.info? 70).map (·.size) = some G.size) (h1 : G.all (·.oneCell') = true)
    (CG : Hid (∀ W, Calls Try.prog 83 #[.int .i64 z] W fun e w' => e = .returned (.tuple #[.agg G, .bool true]) ∧ Below W.heap.size W w')) (HF : Hid (∀ W g, IHolds W g 70 G.toList → Calls Try.prog 50 #[.pointer (some ⟨g, 0, none⟩)] W fun e w' => e = .returned (.tuple #[.string t, .int .i64 0]) ∧ Below W.heap.size W w')) :
    Calls Try.prog 48 #[.int .i64 z, .func (.func 50) #[] #[]] w fun e w' => e = .returned (.tuple #[.string t, .int .i64 0]) ∧ Below w.heap.size w w' := by
  go_enter Try.func48, Try.ntmps48
  go_wp2_with fail
  refine (CG.out w).mono ?_
  rintro e U1 ⟨rfl, hb⟩
  have B : Hid (Below w.heap.size w U1) := hb
  clear hb
  have hg : (U1.alloc (.cells gz 70)).heap[U1.heap.size]? = some (.cells gz 70 (0, 0)) := by
    have h := IHolds.new U1 70 gz.toList
    unfold IHolds at h
    rw [Array.toArray_toList] at h
    exact h
  have J : Hid (IHolds (U1.alloc (.cells G 70)) U1.heap.size 70 G.toList) := by
    have h := IHolds.new U1 70 G.toList
    rw [Array.toArray_toList] at h
    exact h
  replace B := aB B (nB U1 (.cells G 70))
  go_wp2_with (refine wpList_store_row rfl 70 (.tmp 6) (.tmp 12) rfl U1.heap.size G rfl rfl 70 gz hg hi hG h1 ?_; rw [World.setRow_alloc_new]; clear hg)
  generalize U1.alloc (.cells G 70) = U2 at *
  refine (HF.out U2 _ J.out).mono ?_
  rintro e U3 ⟨rfl, hb⟩
  replace B := aB B hb
  clear hb
  go_wp2_with fail
  go_ret2
  exact ⟨rfl, B.out⟩
set_option maxRecDepth 100000 in
set_option maxHeartbeats 2000000 in
theorem on48_51 {t : ByteArray} {w : World} {z : Int} {G : Array Value} (hG : gz.size = G.size) (hi : (Try.prog.info? 70).map (·.size) = some G.size) (h1 : G.all (·.oneCell') = true)
    (CG : Hid (∀ W, Calls Try.prog 83 #[.int .i64 z] W fun e w' => e = .returned (.tuple #[.agg G, .bool true]) ∧ Below W.heap.size W w')) (HF : Hid (∀ W g, IHolds W g 70 G.toList → Calls Try.prog 51 #[.pointer (some ⟨g, 0, none⟩)] W fun e w' => e = .returned (.tuple #[.string t, .int .i64 0]) ∧ Below W.heap.size W w')) :
    Calls Try.prog 48 #[.int .i64 z, .func (.func 51) #[] #[]] w fun e w' => e = .returned (.tuple #[.string t, .int .i64 0]) ∧ Below w.heap.size w w' := by
  go_enter Try.func48, Try.ntmps48
  go_wp2_with fail
  refine (CG.out w).mono ?_
  rintro e U1 ⟨rfl, hb⟩
  have B : Hid (Below w.heap.size w U1) := hb
  clear hb
  have hg : (U1.alloc (.cells gz 70)).heap[U1.heap.size]? = some (.cells gz 70 (0, 0)) := by
    have h := IHolds.new U1 70 gz.toList
    unfold IHolds at h
    rw [Array.toArray_toList] at h
    exact h
  have J : Hid (IHolds (U1.alloc (.cells G 70)) U1.heap.size 70 G.toList) := by
    have h := IHolds.new U1 70 G.toList
    rw [Array.toArray_toList] at h
    exact h
  replace B := aB B (nB U1 (.cells G 70))
  go_wp2_with (refine wpList_store_row rfl 70 (.tmp 6) (.tmp 12) rfl U1.heap.size G rfl rfl 70 gz hg hi hG h1 ?_; rw [World.setRow_alloc_new]; clear hg)
  generalize U1.alloc (.cells G 70) = U2 at *
  refine (HF.out U2 _ J.out).mono ?_
  rintro e U3 ⟨rfl, hb⟩
  replace B := aB B hb
  clear hb
  go_wp2_with fail
  go_ret2
  exact ⟨rfl, B.out⟩
set_option maxRecDepth 100000 in
set_option maxHeartbeats 2000000 in
theorem on48_no (F : Nat) {w : World} {z : Int} {G : Array Value} (hG : gz.size = G.size) (hi : (Try.prog.info? 70).map (·.size) = some G.size) (h1 : G.all (·.oneCell') = true)
    (CG : Hid (∀ W, Calls Try.prog 83 #[.int .i64 z] W fun e w' => e = .returned (.tuple #[.agg G, .bool false]) ∧ Below W.heap.size W w'))  :
    Calls Try.prog 48 #[.int .i64 z, .func (.func F) #[] #[]] w fun e w' => e = .returned (.tuple #[.string ⟨#[]⟩, .int .i64 1]) ∧ Below w.heap.size w w' := by
  go_enter Try.func48, Try.ntmps48
  go_wp2_with fail
  refine (CG.out w).mono ?_
  rintro e U1 ⟨rfl, hb⟩
  have B : Hid (Below w.heap.size w U1) := hb
  clear hb
  have hg : (U1.alloc (.cells gz 70)).heap[U1.heap.size]? = some (.cells gz 70 (0, 0)) := by
    have h := IHolds.new U1 70 gz.toList
    unfold IHolds at h
    rw [Array.toArray_toList] at h
    exact h
  have J : Hid (IHolds (U1.alloc (.cells G 70)) U1.heap.size 70 G.toList) := by
    have h := IHolds.new U1 70 G.toList
    rw [Array.toArray_toList] at h
    exact h
  replace B := aB B (nB U1 (.cells G 70))
  go_wp2_with (refine wpList_store_row rfl 70 (.tmp 6) (.tmp 12) rfl U1.heap.size G rfl rfl 70 gz hg hi hG h1 ?_; rw [World.setRow_alloc_new]; clear hg)
  go_ret2
  exact ⟨rfl, B.out⟩
set_option maxRecDepth 100000 in
set_option maxHeartbeats 2000000 in
theorem sizes_call {w : World} {z : Int} {s c : Int} (H : Hid (Calls Try.prog 46 #[.int .i64 z, .func (.func 47) #[] #[]] w fun e w' => e = .returned (.tuple #[.int .i64 s, .int .i64 c]) ∧ Below w.heap.size w w')) :
    Calls Try.prog 10 #[.int .i64 z] w fun e w' => e = .returned (.tuple #[.int .i64 s, .int .i64 s, .int .i64 c]) ∧ Below w.heap.size w w' := by
  go_enter Try.func10, Try.ntmps10
  go_wp2_with fail
  refine H.out.mono ?_
  rintro e U1 ⟨rfl, hb⟩
  have B : Hid (Below w.heap.size w U1) := hb
  clear hb
  go_wp2_with fail
  exact bodyPost_ret (v := .tuple #[.int .i64 s, .int .i64 s, .int .i64 c]) (by simp [results, Try.results10, go_sem]) rfl ⟨rfl, B.out⟩
set_option maxRecDepth 100000 in
set_option maxHeartbeats 2000000 in
theorem order_call {w : World} {z : Int} {t : ByteArray} {c : Int} (H : Hid (Calls Try.prog 48 #[.int .i64 z, .func (.func 49) #[] #[]] w fun e w' => e = .returned (.tuple #[.string t, .int .i64 c]) ∧ Below w.heap.size w w')) :
    Calls Try.prog 11 #[.int .i64 z] w fun e w' => e = .returned (.tuple #[.string t, .int .i64 c]) ∧ Below w.heap.size w w' := by
  go_enter Try.func11, Try.ntmps11
  go_wp2_with fail
  refine H.out.mono ?_
  rintro e U1 ⟨rfl, hb⟩
  have B : Hid (Below w.heap.size w U1) := hb
  clear hb
  go_wp2_with fail
  go_ret2
  exact ⟨rfl, B.out⟩
set_option maxRecDepth 100000 in
set_option maxHeartbeats 2000000 in
theorem prime_call {w : World} {z : Int} {t : ByteArray} {c : Int} (H : Hid (Calls Try.prog 48 #[.int .i64 z, .func (.func 50) #[] #[]] w fun e w' => e = .returned (.tuple #[.string t, .int .i64 c]) ∧ Below w.heap.size w w')) :
    Calls Try.prog 12 #[.int .i64 z] w fun e w' => e = .returned (.tuple #[.string t, .int .i64 c]) ∧ Below w.heap.size w w' := by
  go_enter Try.func12, Try.ntmps12
  go_wp2_with fail
  refine H.out.mono ?_
  rintro e U1 ⟨rfl, hb⟩
  have B : Hid (Below w.heap.size w U1) := hb
  clear hb
  go_wp2_with fail
  go_ret2
  exact ⟨rfl, B.out⟩
set_option maxRecDepth 100000 in
set_option maxHeartbeats 2000000 in
theorem base_call {w : World} {z : Int} {t : ByteArray} {c : Int} (H : Hid (Calls Try.prog 48 #[.int .i64 z, .func (.func 51) #[] #[]] w fun e w' => e = .returned (.tuple #[.string t, .int .i64 c]) ∧ Below w.heap.size w w')) :
    Calls Try.prog 15 #[.int .i64 z] w fun e w' => e = .returned (.tuple #[.string t, .int .i64 c]) ∧ Below w.heap.size w w' := by
  go_enter Try.func15, Try.ntmps15
  go_wp2_with fail
  refine H.out.mono ?_
  rintro e U1 ⟨rfl, hb⟩
  have B : Hid (Below w.heap.size w U1) := hb
  clear hb
  go_wp2_with fail
  go_ret2
  exact ⟨rfl, B.out⟩
end Go.Proofs.Ytckfdpiohkggaaa
