/- What is told of a kind: Sizes, Order, Prime, Base. -/
import Derived.Test.YtckfdpiohkggaabDoorGround
set_option linter.unusedSimpArgs false
set_option linter.unusedVariables false
namespace Go.Proofs.YtckfdpiohkggaabDoor
open Go.RowKit Go.Deep Go.PlainAid

set_option maxRecDepth 100000 in
set_option maxHeartbeats 2000000 in
theorem on48_no (F : Nat) {w : World} {z : Int} {G : Array Value} (hG : gz.size = G.size) (hi : (Tryd.prog.info? 61).map (·.size) = some G.size) (h1 : G.all (·.oneCell') = true)
    (CG : Hid (∀ W, Calls Tryd.prog 33 #[.int .i64 z] W fun e w' => e = .returned (.tuple #[.agg G, .bool false]) ∧ Below W.heap.size W w'))  :
    Calls Tryd.prog 21 #[.int .i64 z, .func (.func F) #[] #[]] w fun e w' => e = .returned (.tuple #[.string ⟨#[]⟩, .int .i64 1]) ∧ Below w.heap.size w w' := by
  go_enter Tryd.func21, Tryd.ntmps21
  go_wp2_with fail
  refine (CG.out w).mono ?_
  rintro e U1 ⟨rfl, hb⟩
  have B : Hid (Below w.heap.size w U1) := hb
  clear hb
  have hg : (U1.alloc (.cells gz 61)).heap[U1.heap.size]? = some (.cells gz 61 (0, 0)) := by
    have h := IHolds.new U1 61 gz.toList
    unfold IHolds at h
    rw [Array.toArray_toList] at h
    exact h
  have J : Hid (IHolds (U1.alloc (.cells G 61)) U1.heap.size 61 G.toList) := by
    have h := IHolds.new U1 61 G.toList
    rw [Array.toArray_toList] at h
    exact h
  replace B := aB B (nB U1 (.cells G 61))
  go_wp2_with (refine wpList_store_row rfl 61 (.tmp 6) (.tmp 12) rfl U1.heap.size G rfl rfl 61 gz hg hi hG h1 ?_; rw [World.setRow_alloc_new]; clear hg)
  go_ret2
  exact ⟨rfl, B.out⟩
end Go.Proofs.YtckfdpiohkggaabDoor
