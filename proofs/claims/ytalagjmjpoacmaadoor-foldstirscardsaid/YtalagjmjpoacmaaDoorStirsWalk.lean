/- The walk of the law FoldStirs: for any words it answers true; nothing that was there turns. -/
import Derived.Test.YtalagjmjpoacmaaDoorEq
import Derived.Test.YtalagjmjpoacmaaDoorRefUnstir
import Derived.Deep.RegionHeld3
set_option linter.unusedSimpArgs false
set_option linter.unusedVariables false
namespace Go.Proofs.YtalagjmjpoacmaaDoor
open Go.RowKit

set_option maxHeartbeats 1000000 in
theorem foldStirs_walk (v m : List UInt32) (hv : v.length = 16) (hm : m.length = 16) (w : World) (hT : Tabs w) :
    Calls Tryd.prog 3 #[.agg (arr v), .agg (arr m)] w fun e w' => e = .returned (.bool true) ∧ Below w.heap.size w w' := by
  have s1 := arr_size
  have ht0 := hT.size
  have hu23 := Tryd.underlying23
  have g23 := eqg23
  have iv := hi_arr v hv
  have im := hi_arr m hm
  have lv := len_arr v hv
  have lm := len_arr m hm
  have ov := one_arr v
  have om := one_arr m
  have hV : (stirs m 10 v).length = 16 := by rw [stirs_length, hv]
  have hW : (uns m 10 v).length = 16 := by rw [uns_length, hv]
  have e1 := eq23 (stirs m 10 v) (stirs m 10 v) hV hV
  rw [beq_self_eq_true] at e1
  have e2 := eq23 (uns m 10 v) (uns m 10 v) hW hW
  rw [beq_self_eq_true] at e2
  have c1 : Hid (∀ w', Tabs w' → Calls Tryd.prog 9 #[.agg (arr v), .agg (arr m)] w' fun e w'' => e = .returned (.agg (arr (stirs m 10 v))) ∧ Below w'.heap.size w' w'') := fun w' h => stir_any v m hv hm w' h
  have c2 : Hid (∀ w', Tabs w' → Calls Tryd.prog 10 #[.agg (arr v), .agg (arr m)] w' fun e w'' => e = .returned (.agg (arr (stirs m 10 v))) ∧ Below w'.heap.size w' w'') := fun w' _ => refStir_any v m hv hm w'
  have c3 : Hid (∀ w', Tabs w' → Calls Tryd.prog 11 #[.agg (arr v), .agg (arr m)] w' fun e w'' => e = .returned (.agg (arr (uns m 10 v))) ∧ Below w'.heap.size w' w'') := fun w' h => unstir_any v m hv hm w' h
  have c4 : Hid (∀ w', Tabs w' → Calls Tryd.prog 12 #[.agg (arr v), .agg (arr m)] w' fun e w'' => e = .returned (.agg (arr (uns m 10 v))) ∧ Below w'.heap.size w' w'') := fun w' _ => refUnstir_any v m hv hm w'
  generalize stirs m 10 v = V at *
  generalize uns m 10 v = Y at *
  go_enter Tryd.func3, Tryd.ntmps3
  go_wp2_with fail
  obtain ⟨w1, hw1⟩ : ∃ w1, w1 = (w.alloc (Obj.cells (arr v) 23)).alloc (Obj.cells (arr m) 23) := ⟨_, rfl⟩
  have a1 : Holds w1 w.heap.size 23 v := by rw [hw1]; exact (Holds.new w 23 v).alloc _
  have a2 : Holds w1 (w.heap.size + 1) 23 m := by rw [hw1]; have := Holds.new (w.alloc (Obj.cells (arr v) 23)) 23 m; rw [World.size_alloc] at this; exact this
  have a4 : Hid (Below w.heap.size w w1) := by rw [hw1]; exact ((Below.refl _ w).alloc (Nat.le_refl _) _).alloc (by simp) _
  have HS : Hid (∀ w', Below w1.heap.size w1 w' → w'.rangeAt w.heap.size 0 (arr v).toList ∧ w'.rangeAt (w.heap.size + 1) 0 (arr m).toList) := fun w' h =>
    ⟨range_arr (a1.of_below h a1.lt), range_arr (a2.of_below h a2.lt)⟩
  have HT : Hid (∀ w', Below w1.heap.size w1 w' → Tabs w') := fun w' h => (hT.of_below a4.out hT.size).of_below h (by have := a1.lt; omega)
  rw [← hw1]
  clear hw1 hT
  have b0 : Hid (Below w1.heap.size w1 w1.drew) := (Below.refl _ _).drew
  refine wp_region_held_drew (S := fun w' => w'.rangeAt w.heap.size 0 (arr v).toList ∧ w'.rangeAt (w.heap.size + 1) 0 (arr m).toList) (by kernel_rfl) (HS.out _ b0.out) (fun hHeld => ?_)
  refine wpAnyH_take (i := 0) rfl (by kernel_rfl) (by kernel_rfl) (by kernel_rfl) (fun _ _ _ h => h) (yieldsIf_load_mid (by rfl) 23 (.tmp 2) rfl _ 0 rfl (arr v).toList _ (fun _ h => h.1) hu23 rfl iv) hHeld ?_
  simp only [Act.put, List.getElem_toArray, List.getElem_cons_succ, List.getElem_cons_zero, List.setIfInBounds_toArray, List.set_cons_zero, List.set_cons_succ, Array.toArray_toList]
  refine wpAnyH_take (i := 1) rfl (by kernel_rfl) (by kernel_rfl) (by kernel_rfl) (fun _ _ _ h => h) (yieldsIf_load_mid (by rfl) 23 (.tmp 3) rfl _ 0 rfl (arr m).toList _ (fun _ h => h.2) hu23 rfl im) hHeld ?_
  simp only [Act.put, List.getElem_toArray, List.getElem_cons_succ, List.getElem_cons_zero, List.setIfInBounds_toArray, List.set_cons_zero, List.set_cons_succ, Array.toArray_toList]
  refine wpAnyH_take (i := 3) rfl (by kernel_rfl) (by kernel_rfl) (by kernel_rfl) (fun _ _ _ h => h) (yieldsIf_load_mid (by rfl) 23 (.tmp 2) rfl _ 0 rfl (arr v).toList _ (fun _ h => h.1) hu23 rfl iv) hHeld ?_
  simp only [Act.put, List.getElem_toArray, List.getElem_cons_succ, List.getElem_cons_zero, List.setIfInBounds_toArray, List.set_cons_zero, List.set_cons_succ, Array.toArray_toList]
  refine wpAnyH_take (i := 4) rfl (by kernel_rfl) (by kernel_rfl) (by kernel_rfl) (fun _ _ _ h => h) (yieldsIf_load_mid (by rfl) 23 (.tmp 3) rfl _ 0 rfl (arr m).toList _ (fun _ h => h.2) hu23 rfl im) hHeld ?_
  simp only [Act.put, List.getElem_toArray, List.getElem_cons_succ, List.getElem_cons_zero, List.setIfInBounds_toArray, List.set_cons_zero, List.set_cons_succ, Array.toArray_toList]
  refine wpAnyH_ready (rs := [2]) (by kernel_rfl) (by simp) ?_
  refine AllReadyH.cons rfl (fun K hK => ?_) AllReadyH.nil
  go_simp
  refine (c1.out _ (HT.out _ b0.out)).mono ?_
  rintro e wa ⟨rfl, hbx⟩
  have b1 : Hid (Below w1.heap.size w1 wa) := b0.out.trans (hbx.mono b0.out.size)
  clear hbx
  go_wp2_with fail
  refine hK.out _ _ (HS.out _ b1.out) (fun hHeld2 => ?_)
  clear hK K
  try simp only [Act.put, List.getElem_toArray, List.getElem_cons_succ, List.getElem_cons_zero, List.setIfInBounds_toArray, List.set_cons_zero, List.set_cons_succ, Array.toArray_toList]
  refine wpAnyH_ready (rs := [5]) (by kernel_rfl) (by simp) ?_
  refine AllReadyH.cons rfl (fun K hK => ?_) AllReadyH.nil
  go_simp
  refine (c2.out _ (HT.out _ b1.out)).mono ?_
  rintro e wb ⟨rfl, hbx⟩
  have b2 : Hid (Below w1.heap.size w1 wb) := b1.out.trans (hbx.mono b1.out.size)
  clear hbx
  go_wp2_with fail
  refine hK.out _ _ (HS.out _ b2.out) (fun hHeld3 => ?_)
  clear hK K
  try simp only [Act.put, List.getElem_toArray, List.getElem_cons_succ, List.getElem_cons_zero, List.setIfInBounds_toArray, List.set_cons_zero, List.set_cons_succ, Array.toArray_toList]
  refine wpAnyH_take (i := 6) (v := .bool true) rfl (by kernel_rfl) (by kernel_rfl) (by kernel_rfl) (fun _ _ _ h => h) (Or.inl ⟨by rfl, ?_⟩) hHeld3 ?_
  · intro w _; go_simp
  simp only [Act.put, List.getElem_toArray, List.getElem_cons_succ, List.getElem_cons_zero, List.setIfInBounds_toArray, List.set_cons_zero, List.set_cons_succ, Array.toArray_toList]
  refine wpAnyH_take (i := 7) (v := .bool true) rfl (by kernel_rfl) (by kernel_rfl) (by kernel_rfl) (fun _ _ _ h => h) (Or.inl ⟨by rfl, ?_⟩) hHeld3 ?_
  · intro w _; go_simp
  simp only [Act.put, List.getElem_toArray, List.getElem_cons_succ, List.getElem_cons_zero, List.setIfInBounds_toArray, List.set_cons_zero, List.set_cons_succ, Array.toArray_toList]
  refine wpAnyH_take (i := 8) rfl (by kernel_rfl) (by kernel_rfl) (by kernel_rfl) (fun _ _ _ h => h) (yieldsIf_load_mid (by rfl) 23 (.tmp 2) rfl _ 0 rfl (arr v).toList _ (fun _ h => h.1) hu23 rfl iv) hHeld3 ?_
  simp only [Act.put, List.getElem_toArray, List.getElem_cons_succ, List.getElem_cons_zero, List.setIfInBounds_toArray, List.set_cons_zero, List.set_cons_succ, Array.toArray_toList]
  refine wpAnyH_take (i := 9) rfl (by kernel_rfl) (by kernel_rfl) (by kernel_rfl) (fun _ _ _ h => h) (yieldsIf_load_mid (by rfl) 23 (.tmp 3) rfl _ 0 rfl (arr m).toList _ (fun _ h => h.2) hu23 rfl im) hHeld3 ?_
  simp only [Act.put, List.getElem_toArray, List.getElem_cons_succ, List.getElem_cons_zero, List.setIfInBounds_toArray, List.set_cons_zero, List.set_cons_succ, Array.toArray_toList]
  refine wpAnyH_take (i := 11) rfl (by kernel_rfl) (by kernel_rfl) (by kernel_rfl) (fun _ _ _ h => h) (yieldsIf_load_mid (by rfl) 23 (.tmp 2) rfl _ 0 rfl (arr v).toList _ (fun _ h => h.1) hu23 rfl iv) hHeld3 ?_
  simp only [Act.put, List.getElem_toArray, List.getElem_cons_succ, List.getElem_cons_zero, List.setIfInBounds_toArray, List.set_cons_zero, List.set_cons_succ, Array.toArray_toList]
  refine wpAnyH_take (i := 12) rfl (by kernel_rfl) (by kernel_rfl) (by kernel_rfl) (fun _ _ _ h => h) (yieldsIf_load_mid (by rfl) 23 (.tmp 3) rfl _ 0 rfl (arr m).toList _ (fun _ h => h.2) hu23 rfl im) hHeld3 ?_
  simp only [Act.put, List.getElem_toArray, List.getElem_cons_succ, List.getElem_cons_zero, List.setIfInBounds_toArray, List.set_cons_zero, List.set_cons_succ, Array.toArray_toList]
  refine wpAnyH_ready (rs := [10]) (by kernel_rfl) (by simp) ?_
  refine AllReadyH.cons rfl (fun K hK => ?_) AllReadyH.nil
  go_simp
  refine (c3.out _ (HT.out _ b2.out)).mono ?_
  rintro e wc ⟨rfl, hbx⟩
  have b3 : Hid (Below w1.heap.size w1 wc) := b2.out.trans (hbx.mono b2.out.size)
  clear hbx
  go_wp2_with fail
  refine hK.out _ _ (HS.out _ b3.out) (fun hHeld4 => ?_)
  clear hK K
  try simp only [Act.put, List.getElem_toArray, List.getElem_cons_succ, List.getElem_cons_zero, List.setIfInBounds_toArray, List.set_cons_zero, List.set_cons_succ, Array.toArray_toList]
  refine wpAnyH_ready (rs := [13]) (by kernel_rfl) (by simp) ?_
  refine AllReadyH.cons rfl (fun K hK => ?_) AllReadyH.nil
  go_simp
  refine (c4.out _ (HT.out _ b3.out)).mono ?_
  rintro e wd ⟨rfl, hbx⟩
  have b4 : Hid (Below w1.heap.size w1 wd) := b3.out.trans (hbx.mono b3.out.size)
  clear hbx
  go_wp2_with fail
  refine hK.out _ _ (HS.out _ b4.out) (fun hHeld5 => ?_)
  clear hK K
  try simp only [Act.put, List.getElem_toArray, List.getElem_cons_succ, List.getElem_cons_zero, List.setIfInBounds_toArray, List.set_cons_zero, List.set_cons_succ, Array.toArray_toList]
  refine wpAnyH_take (i := 14) (v := .bool true) rfl (by kernel_rfl) (by kernel_rfl) (by kernel_rfl) (fun _ _ _ h => h) (Or.inl ⟨by rfl, ?_⟩) hHeld5 ?_
  · intro w _; go_simp
  simp only [Act.put, List.getElem_toArray, List.getElem_cons_succ, List.getElem_cons_zero, List.setIfInBounds_toArray, List.set_cons_zero, List.set_cons_succ, Array.toArray_toList]
  refine wpAnyH_take (i := 15) (v := .bool true) rfl (by kernel_rfl) (by kernel_rfl) (by kernel_rfl) (fun _ _ _ h => h) (Or.inl ⟨by rfl, ?_⟩) hHeld5 ?_
  · intro w _; go_simp
  simp only [Act.put, List.getElem_toArray, List.getElem_cons_succ, List.getElem_cons_zero, List.setIfInBounds_toArray, List.set_cons_zero, List.set_cons_succ, Array.toArray_toList]
  refine wpAnyH_take (i := 16) (v := .bool true) rfl (by kernel_rfl) (by kernel_rfl) (by kernel_rfl) (fun _ _ _ h => h) (Or.inl ⟨by rfl, ?_⟩) hHeld5 ?_
  · intro w _; go_simp
  simp only [Act.put, List.getElem_toArray, List.getElem_cons_succ, List.getElem_cons_zero, List.setIfInBounds_toArray, List.set_cons_zero, List.set_cons_succ, Array.toArray_toList]
  refine wpAnyH_done (by kernel_rfl) ?_ _
  go_wp2_with fail
  go_ret
  exact ⟨rfl, a4.out.trans (b4.out.mono a4.out.size)⟩
end Go.Proofs.YtalagjmjpoacmaaDoor
