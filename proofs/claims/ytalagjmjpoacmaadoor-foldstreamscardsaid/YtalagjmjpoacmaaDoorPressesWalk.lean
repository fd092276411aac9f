/- The walk of the law FoldPresses: for any words it answers true; nothing that was there turns. -/
import Derived.Test.YtalagjmjpoacmaaDoorRefPress
import Derived.Deep.RegionHeld3
set_option linter.unusedSimpArgs false
set_option linter.unusedVariables false
namespace Go.Proofs.YtalagjmjpoacmaaDoor
open Go.RowKit

set_option maxHeartbeats 1000000 in
theorem foldPresses_walk (h m : List UInt32) (hh : h.length = 8) (hm : m.length = 16) (n : Nat) (hn : n < 18446744073709551616) (last : Bool) (w : World) (hT : Tabs w) (hS : Starts w) :
    Calls Tryd.prog 5 #[.agg (arr h), .agg (arr m), .int .u64 (n : Int), .bool last] w fun e w' => e = .returned (.bool true) ∧ Below w.heap.size w w' := by
  have s1 := arr_size
  have ht0 := hT.size
  have hu23 := Tryd.underlying23
  have hu27 := Tryd.underlying27
  have g27 := eqg27
  have ih : (Tryd.prog.info? 27).map (·.size) = some (arr h).toList.length := by rw [size27, Array.length_toList, arr_size, hh]
  have im := hi_arr m hm
  have hP : (pressL h m n last).length = 8 := by rw [pressL_length, hh]
  have e1 := eq27 (pressL h m n last) (pressL h m n last) hP hP
  rw [beq_self_eq_true] at e1
  have c1 : Hid (∀ w', Tabs w' ∧ Starts w' → Calls Tryd.prog 13 #[.agg (arr h), .agg (arr m), .int .u64 (n : Int), .bool last] w' fun e w'' => e = .returned (.agg (arr (pressL h m n last))) ∧ Below w'.heap.size w' w'') := fun w' h' => press_any h m hh hm n hn last w' h'.1 h'.2
  have c2 : Hid (∀ w', Tabs w' ∧ Starts w' → Calls Tryd.prog 14 #[.agg (arr h), .agg (arr m), .int .u64 (n : Int), .bool last] w' fun e w'' => e = .returned (.agg (arr (pressL h m n last))) ∧ Below w'.heap.size w' w'') := fun w' _ => refPress_any h m hh hm n hn last w'
  generalize pressL h m n last = V at *
  go_enter Tryd.func5, Tryd.ntmps5
  go_wp2_with fail
  obtain ⟨w1, hw1⟩ : ∃ w1, w1 = (w.alloc (Obj.cells (arr h) 27)).alloc (Obj.cells (arr m) 23) := ⟨_, rfl⟩
  have a1 : Holds w1 w.heap.size 27 h := by rw [hw1]; exact (Holds.new w 27 h).alloc _
  have a2 : Holds w1 (w.heap.size + 1) 23 m := by rw [hw1]; have := Holds.new (w.alloc (Obj.cells (arr h) 27)) 23 m; rw [World.size_alloc] at this; exact this
  have a4 : Hid (Below w.heap.size w w1) := by rw [hw1]; exact ((Below.refl _ w).alloc (Nat.le_refl _) _).alloc (by simp) _
  have HS : Hid (∀ w', Below w1.heap.size w1 w' → w'.rangeAt w.heap.size 0 (arr h).toList ∧ w'.rangeAt (w.heap.size + 1) 0 (arr m).toList) := fun w' h' =>
    ⟨range_arr (a1.of_below h' a1.lt), range_arr (a2.of_below h' a2.lt)⟩
  have HT : Hid (∀ w', Below w1.heap.size w1 w' → Tabs w' ∧ Starts w') := fun w' h' => ⟨(hT.of_below a4.out hT.size).of_below h' (by have := a1.lt; omega), (hS.of_below a4.out hT.size).of_below h' (by have := a1.lt; omega)⟩
  rw [← hw1]
  clear hw1 hT hS
  have b0 : Hid (Below w1.heap.size w1 w1.drew) := (Below.refl _ _).drew
  refine wp_region_held_drew (S := fun w' => w'.rangeAt w.heap.size 0 (arr h).toList ∧ w'.rangeAt (w.heap.size + 1) 0 (arr m).toList) (by kernel_rfl) (HS.out _ b0.out) (fun hHeld => ?_)
  refine wpAnyH_take (i := 0) rfl (by kernel_rfl) (by kernel_rfl) (by kernel_rfl) (fun _ _ _ h => h) (yieldsIf_load_mid (by rfl) 27 (.tmp 4) rfl _ 0 rfl (arr h).toList _ (fun _ h => h.1) hu27 rfl ih) hHeld ?_
  simp only [Act.put, List.getElem_toArray, List.getElem_cons_succ, List.getElem_cons_zero, List.setIfInBounds_toArray, List.set_cons_zero, List.set_cons_succ, Array.toArray_toList]
  refine wpAnyH_take (i := 1) rfl (by kernel_rfl) (by kernel_rfl) (by kernel_rfl) (fun _ _ _ h => h) (yieldsIf_load_mid (by rfl) 23 (.tmp 5) rfl _ 0 rfl (arr m).toList _ (fun _ h => h.2) hu23 rfl im) hHeld ?_
  simp only [Act.put, List.getElem_toArray, List.getElem_cons_succ, List.getElem_cons_zero, List.setIfInBounds_toArray, List.set_cons_zero, List.set_cons_succ, Array.toArray_toList]
  refine wpAnyH_take (i := 2) (v := .int .u64 (n : Int)) rfl (by kernel_rfl) (by kernel_rfl) (by kernel_rfl) (fun _ _ _ h => h) (Or.inl ⟨by rfl, ?_⟩) hHeld ?_
  · intro w _; go_simp
  simp only [Act.put, List.getElem_toArray, List.getElem_cons_succ, List.getElem_cons_zero, List.setIfInBounds_toArray, List.set_cons_zero, List.set_cons_succ, Array.toArray_toList]
  refine wpAnyH_take (i := 3) (v := .bool last) rfl (by kernel_rfl) (by kernel_rfl) (by kernel_rfl) (fun _ _ _ h => h) (Or.inl ⟨by rfl, ?_⟩) hHeld ?_
  · intro w _; go_simp
  simp only [Act.put, List.getElem_toArray, List.getElem_cons_succ, List.getElem_cons_zero, List.setIfInBounds_toArray, List.set_cons_zero, List.set_cons_succ, Array.toArray_toList]
  refine wpAnyH_take (i := 5) rfl (by kernel_rfl) (by kernel_rfl) (by kernel_rfl) (fun _ _ _ h => h) (yieldsIf_load_mid (by rfl) 27 (.tmp 4) rfl _ 0 rfl (arr h).toList _ (fun _ h => h.1) hu27 rfl ih) hHeld ?_
  simp only [Act.put, List.getElem_toArray, List.getElem_cons_succ, List.getElem_cons_zero, List.setIfInBounds_toArray, List.set_cons_zero, List.set_cons_succ, Array.toArray_toList]
  refine wpAnyH_take (i := 6) rfl (by kernel_rfl) (by kernel_rfl) (by kernel_rfl) (fun _ _ _ h => h) (yieldsIf_load_mid (by rfl) 23 (.tmp 5) rfl _ 0 rfl (arr m).toList _ (fun _ h => h.2) hu23 rfl im) hHeld ?_
  simp only [Act.put, List.getElem_toArray, List.getElem_cons_succ, List.getElem_cons_zero, List.setIfInBounds_toArray, List.set_cons_zero, List.set_cons_succ, Array.toArray_toList]
  refine wpAnyH_take (i := 7) (v := .int .u64 (n : Int)) rfl (by kernel_rfl) (by kernel_rfl) (by kernel_rfl) (fun _ _ _ h => h) (Or.inl ⟨by rfl, ?_⟩) hHeld ?_
  · intro w _; go_simp
  simp only [Act.put, List.getElem_toArray, List.getElem_cons_succ, List.getElem_cons_zero, List.setIfInBounds_toArray, List.set_cons_zero, List.set_cons_succ, Array.toArray_toList]
  refine wpAnyH_take (i := 8) (v := .bool last) rfl (by kernel_rfl) (by kernel_rfl) (by kernel_rfl) (fun _ _ _ h => h) (Or.inl ⟨by rfl, ?_⟩) hHeld ?_
  · intro w _; go_simp
  simp only [Act.put, List.getElem_toArray, List.getElem_cons_succ, List.getElem_cons_zero, List.setIfInBounds_toArray, List.set_cons_zero, List.set_cons_succ, Array.toArray_toList]
  refine wpAnyH_ready (rs := [4]) (by kernel_rfl) (by simp) ?_
  refine AllReadyH.cons rfl (fun K hK => ?_) AllReadyH.nil
  go_simp
  refine (c1.out _ (HT.out _ b0.out)).mono ?_
  rintro e wa ⟨rfl, hbx⟩
  have b1 : Hid (Below w1.heap.size w1 wa) := b0.out.trans (hbx.mono b0.out.size)
  clear hbx
  go_wp2_with fail
  refine hK.out _ _ (HS.out _ b1.out) (fun hHeld2 => ?_)
  clear hK K
  try simp only [Act.put, List.getElem_toArray, List.getElem_cons_succ, List.getElem_cons_zero, List.setIfInBounds_toArray, List.set_cons_zero, List.set_cons_succ, Array.toArray_toList]
  refine wpAnyH_ready (rs := [9]) (by kernel_rfl) (by simp) ?_
  refine AllReadyH.cons rfl (fun K hK => ?_) AllReadyH.nil
  go_simp
  refine (c2.out _ (HT.out _ b1.out)).mono ?_
  rintro e wb ⟨rfl, hbx⟩
  have b2 : Hid (Below w1.heap.size w1 wb) := b1.out.trans (hbx.mono b1.out.size)
  clear hbx
  go_wp2_with fail
  refine hK.out _ _ (HS.out _ b2.out) (fun hHeld3 => ?_)
  clear hK K
  try simp only [Act.put, List.getElem_toArray, List.getElem_cons_succ, List.getElem_cons_zero, List.setIfInBounds_toArray, List.set_cons_zero, List.set_cons_succ, Array.toArray_toList]
  refine wpAnyH_take (i := 10) (v := .bool true) rfl (by kernel_rfl) (by kernel_rfl) (by kernel_rfl) (fun _ _ _ h => h) (Or.inl ⟨by rfl, ?_⟩) hHeld3 ?_
  · intro w _; go_simp
  simp only [Act.put, List.getElem_toArray, List.getElem_cons_succ, List.getElem_cons_zero, List.setIfInBounds_toArray, List.set_cons_zero, List.set_cons_succ, Array.toArray_toList]
  refine wpAnyH_take (i := 11) (v := .bool true) rfl (by kernel_rfl) (by kernel_rfl) (by kernel_rfl) (fun _ _ _ h => h) (Or.inl ⟨by rfl, ?_⟩) hHeld3 ?_
  · intro w _; go_simp
  simp only [Act.put, List.getElem_toArray, List.getElem_cons_succ, List.getElem_cons_zero, List.setIfInBounds_toArray, List.set_cons_zero, List.set_cons_succ, Array.toArray_toList]
  refine wpAnyH_done (by kernel_rfl) ?_ _
  go_wp2_with fail
  go_ret
  exact ⟨rfl, a4.out.trans (b2.out.mono a4.out.size)⟩
end Go.Proofs.YtalagjmjpoacmaaDoor
