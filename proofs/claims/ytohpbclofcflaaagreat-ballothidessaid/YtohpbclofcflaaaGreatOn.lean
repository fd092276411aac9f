/- What is told of a kind: Sizes, Order, Prime, Base. -/
import Derived.Test.YtohpbclofcflaaaGreatGround
set_option linter.unusedSimpArgs false
set_option linter.unusedVariables false
namespace Go.Proofs.YtohpbclofcflaaaGreat
open Go.RowKit Go.Deep Go.PlainAid

set_option maxRecDepth 100000 in
set_option maxHeartbeats 2000000 in
theorem sizes_any {w : World} {g S : Nat} (c0 : w.cell? ⟨g, 0, none⟩ = some (.int .i64 (S : Int))) :
    Calls Tryz.prog 52 #[.pointer (some ⟨g, 0, none⟩)] w fun e w' => e = .returned (.tuple #[.int .i64 (S : Int), .int .i64 0]) ∧ Below w.heap.size w w' := by
  go_enter Tryz.func52, Tryz.ntmps52
  go_wp2_with fail
  go_ret2
  exact ⟨rfl, Below.refl _ _⟩
set_option maxRecDepth 100000 in
set_option maxHeartbeats 2000000 in
theorem base_any {w : World} {g S  : Nat} (c0 : w.cell? ⟨g, 0, none⟩ = some (.int .i64 (S : Int)))   (hS : S ≤ 32) :
    Calls Tryz.prog 78 #[.pointer (some ⟨g, 0, none⟩)] w fun e w' => e = .returned (.tuple #[.string ⟨(beB S (NB 2 0 0 0)).toArray⟩, .int .i64 0]) ∧ Below w.heap.size w w' := by
  have C : Hid (Calls Tryz.prog 69 #[.pointer (some ⟨g, 0, none⟩), .agg #[U 2, U 0, U 0, U 0]] w fun e w' => e = .returned (.tuple #[.string ⟨(beB S (NB 2 0 0 0)).toArray⟩, .int .i64 0]) ∧ Below w.heap.size w w') := told_any c0 (by omega) (by omega) (by omega) (by omega) hS
  generalize (⟨(beB S (NB 2 0 0 0)).toArray⟩ : ByteArray) = T at *
  go_enter Tryz.func78, Tryz.ntmps78
  go_wp2_with fail
  refine C.out.mono ?_
  rintro e U1 ⟨rfl, hb⟩
  have B : Hid (Below w.heap.size w U1) := hb
  clear hb
  go_wp2_with fail
  go_ret2
  exact ⟨rfl, B.out⟩
set_option maxRecDepth 100000 in
set_option maxHeartbeats 2000000 in
theorem on46_ok {s : Int} {w : World} {z : Int} {G : Array Value} (hG : gz.size = G.size) (hi : (Tryz.prog.info? 97).map (·.size) = some G.size) (h1 : G.all (·.oneCell') = true)
    (CG : Hid (∀ W, Calls Tryz.prog 73 #[.int .i64 z] W fun e w' => e = .returned (.tuple #[.agg G, .bool true]) ∧ Below W.heap.size W w')) (HF : Hid (∀ W g, IHolds W g 97 G.toList → Calls Tryz.prog 52 #[.pointer (some ⟨g, 0, none⟩)] W fun e w' => e = .returned (.tuple #[.int .i64 s, .int .i64 0]) ∧ Below W.heap.size W w')) :
    Calls Tryz.prog 51 #[.int .i64 z, .func (.func 52) #[] #[]] w fun e w' => e = .returned (.tuple #[.int .i64 s, .int .i64 0]) ∧ Below w.heap.size w w' := by
  go_enter Tryz.func51, Tryz.ntmps51
  go_wp2_with fail
  refine (CG.out w).mono ?_
  rintro e U1 ⟨rfl, hb⟩
  have B : Hid (Below w.heap.size w U1) := hb
  clear hb
  have hg : (U1.alloc (.cells gz 97)).heap[U1.heap.size]? = some (.cells gz 97 (0, 0)) := by
    have h := IHolds.new U1 97 gz.toList
    unfold IHolds at h
    rw [Array.toArray_toList] at h
    exact h
  have J : Hid (IHolds (U1.alloc (.cells G 97)) U1.heap.size 97 G.toList) := by
    have h := IHolds.new U1 97 G.toList
    rw [Array.toArray_toList] at h
    exact h
  replace B := aB B (nB U1 (.cells G 97))
  go_wp2_with (refine wpList_store_row rfl 97 (.tmp 6) (.tmp 12) rfl U1.heap.size G rfl rfl 97 gz hg hi hG h1 ?_; rw [World.setRow_alloc_new]; clear hg)
  generalize U1.alloc (.cells G 97) = U2 at *
  refine (HF.out U2 _ J.out).mono ?_
  rintro e U3 ⟨rfl, hb⟩
  replace B := aB B hb
  clear hb
  go_wp2_with fail
  go_ret2
  exact ⟨rfl, B.out⟩
set_option maxRecDepth 100000 in
set_option maxHeartbeats 2000000 in
theorem on46_no (F : Nat) {w : World} {z : Int} {G : Array Value} (hG : gz.size = G.size) (hi : (Tryz.prog.info? 97).map (·.size) = some G.size) (h1 : G.all (·.oneCell') = true)
    (CG : Hid (∀ W, Calls Tryz.prog 73 #[.int .i64 z] W fun e w' => e = .returned (.tuple #[.agg G, .bool false]) ∧ Below W.heap.size W w'))  :
    Calls Tryz.prog 51 #[.int .i64 z, .func (.func F) #[] #[]] w fun e w' => e = .returned (.tuple #[.int .i64 0, .int .i64 1]) ∧ Below w.heap.size w w' := by
  go_enter Tryz.func51, Tryz.ntmps51
  go_wp2_with fail
  refine (CG.out w).mono ?_
  rintro e U1 ⟨rfl, hb⟩
  have B : Hid (Below w.heap.size w U1) := hb
  clear hb
  have hg : (U1.alloc (.cells gz 97)).heap[U1.heap.size]? = some (.cells gz 97 (0, 0)) := by
    have h := IHolds.new U1 97 gz.toList
    unfold IHolds at h
    rw [Array.toArray_toList] at h
    exact h
  have J : Hid (IHolds (U1.alloc (.cells G 97)) U1.heap.size 97 G.toList) := by
    have h := IHolds.new U1 97 G.toList
    rw [Array.toArray_toList] at h
    exact h
  replace B := aB B (nB U1 (.cells G 97))
  go_wp2_with (refine wpList_store_row rfl 97 (.tmp 6) (.tmp 12) rfl U1.heap.size G rfl rfl 97 gz hg hi hG h1 ?_; rw [World.setRow_alloc_new]; clear hg)
  go_ret2
  exact ⟨rfl, B.out⟩
set_option maxRecDepth 100000 in
set_option maxHeartbeats 2000000 in
theorem on48_51 {t : ByteArray} {w : World} {z : Int} {G : Array Value} (hG : gz.size = G.size) (hi : (Tryz.prog.info? 97).map (·.size) = some G.size) (h1 : G.all (·.oneCell') = true)
    (CG : Hid (∀ W, Calls Tryz.prog 73 #[.int .i64 z] W fun e w' => e = .returned (.tuple #[.agg G, .bool true]) ∧ Below W.heap.size W w')) (HF : Hid (∀ W g, IHolds W g 97 G.toList → Calls Tryz.prog 78 #[.pointer (some ⟨g, 0, none⟩)] W fun e w' => e = .returned (.tuple #[.string t, .int .i64 0]) ∧ Below W.heap.size W w')) :
    Calls Tryz.prog 58 #[.int .i64 z, .func (.func 78) #[] #[]] w fun e w' => e = .returned (.tuple #[.string t, .int .i64 0]) ∧ Below w.heap.size w w' := by
  go_enter Tryz.func58, Tryz.ntmps58
  go_wp2_with fail
  refine (CG.out w).mono ?_
  rintro e U1 ⟨rfl, hb⟩
  have B : Hid (Below w.heap.size w U1) := hb
  clear hb
  have hg : (U1.alloc (.cells gz 97)).heap[U1.heap.size]? = some (.cells gz 97 (0, 0)) := by
    have h := IHolds.new U1 97 gz.toList
    unfold IHolds at h
    rw [Array.toArray_toList] at h
    exact h
  have J : Hid (IHolds (U1.alloc (.cells G 97)) U1.heap.size 97 G.toList) := by
    have h := IHolds.new U1 97 G.toList
    rw [Array.toArray_toList] at h
    exact h
  replace B := aB B (nB U1 (.cells G 97))
  go_wp2_with (refine wpList_store_row rfl 97 (.tmp 6) (.tmp 12) rfl U1.heap.size G rfl rfl 97 gz hg hi hG h1 ?_; rw [World.setRow_alloc_new]; clear hg)
  generalize U1.alloc (.cells G 97) = U2 at *
  refine (HF.out U2 _ J.out).mono ?_
  rintro e U3 ⟨rfl, hb⟩
  replace B := aB B hb
  clear hb
  go_wp2_with fail
  go_ret2
  exact ⟨rfl, B.out⟩
set_option maxRecDepth 100000 in
set_option maxHeartbeats 2000000 in
theorem on48_no (F : Nat) {w : World} {z : Int} {G : Array Value} (hG : gz.size = G.size) (hi : (Tryz.prog.info? 97).map (·.size) = some G.size) (h1 : G.all (·.oneCell') = true)
    (CG : Hid (∀ W, Calls Tryz.prog 73 #[.int .i64 z] W fun e w' => e = .returned (.tuple #[.agg G, .bool false]) ∧ Below W.heap.size W w'))  :
    Calls Tryz.prog 58 #[.int .i64 z, .func (.func F) #[] #[]] w fun e w' => e = .returned (.tuple #[.string ⟨#[]⟩, .int .i64 1]) ∧ Below w.heap.size w w' := by
  go_enter Tryz.func58, Tryz.ntmps58
  go_wp2_with fail
  refine (CG.out w).mono ?_
  rintro e U1 ⟨rfl, hb⟩
  have B : Hid (Below w.heap.size w U1) := hb
  clear hb
  have hg : (U1.alloc (.cells gz 97)).heap[U1.heap.size]? = some (.cells gz 97 (0, 0)) := by
    have h := IHolds.new U1 97 gz.toList
    unfold IHolds at h
    rw [Array.toArray_toList] at h
    exact h
  have J : Hid (IHolds (U1.alloc (.cells G 97)) U1.heap.size 97 G.toList) := by
    have h := IHolds.new U1 97 G.toList
    rw [Array.toArray_toList] at h
    exact h
  replace B := aB B (nB U1 (.cells G 97))
  go_wp2_with (refine wpList_store_row rfl 97 (.tmp 6) (.tmp 12) rfl U1.heap.size G rfl rfl 97 gz hg hi hG h1 ?_; rw [World.setRow_alloc_new]; clear hg)
  go_ret2
  exact ⟨rfl, B.out⟩
set_option maxRecDepth 100000 in
set_option maxHeartbeats 2000000 in
theorem sizes_call {w : World} {z : Int} {s c : Int} (H : Hid (Calls Tryz.prog 51 #[.int .i64 z, .func (.func 52) #[] #[]] w fun e w' => e = .returned (.tuple #[.int .i64 s, .int .i64 c]) ∧ Below w.heap.size w w')) :
    Calls Tryz.prog 32 #[.int .i64 z] w fun e w' => e = .returned (.tuple #[.int .i64 s, .int .i64 s, .int .i64 c]) ∧ Below w.heap.size w w' := by
  go_enter Tryz.func32, Tryz.ntmps32
  go_wp2_with fail
  refine H.out.mono ?_
  rintro e U1 ⟨rfl, hb⟩
  have B : Hid (Below w.heap.size w U1) := hb
  clear hb
  go_wp2_with fail
  exact bodyPost_ret (v := .tuple #[.int .i64 s, .int .i64 s, .int .i64 c]) (by simp [results, Tryz.results32, go_sem]) rfl ⟨rfl, B.out⟩
set_option maxRecDepth 100000 in
set_option maxHeartbeats 2000000 in
theorem base_call {w : World} {z : Int} {t : ByteArray} {c : Int} (H : Hid (Calls Tryz.prog 58 #[.int .i64 z, .func (.func 78) #[] #[]] w fun e w' => e = .returned (.tuple #[.string t, .int .i64 c]) ∧ Below w.heap.size w w')) :
    Calls Tryz.prog 61 #[.int .i64 z] w fun e w' => e = .returned (.tuple #[.string t, .int .i64 c]) ∧ Below w.heap.size w w' := by
  go_enter Tryz.func61, Tryz.ntmps61
  go_wp2_with fail
  refine H.out.mono ?_
  rintro e U1 ⟨rfl, hb⟩
  have B : Hid (Below w.heap.size w U1) := hb
  clear hb
  go_wp2_with fail
  go_ret2
  exact ⟨rfl, B.out⟩
end Go.Proofs.YtohpbclofcflaaaGreat
