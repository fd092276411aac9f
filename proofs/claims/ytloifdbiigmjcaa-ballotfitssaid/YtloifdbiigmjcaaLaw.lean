/- The law BallotFits, walked. -/
import Derived.Test.YtloifdbiigmjcaaRef
set_option linter.unusedSimpArgs false
set_option linter.unusedVariables false
set_option maxRecDepth 100000
namespace Go.Proofs.Ytloifdbiigmjcaa
open Go.RowKit Go.Deep Go.PlainAid

/-- The law, whatever comes in. -/
theorem law_big (nm : ByteArray) (ca : Option Addr) (n cc : Nat) (r s m : Int) {w : World} (v : Value) (hn : ¬ n ≤ 1000) : Calls Try.prog 3 #[CV nm ca n cc r s m, v] w fun e w' => e = .returned (.bool true) ∧ Below w.heap.size w w' := by
  have B0 : Hid (Below w.heap.size w (w.alloc (.cells #[.string nm, .slice ca n cc, .int .i64 r, .int .i64 s, .int .i64 m] 24))) := (Below.refl _ _).alloc (Nat.le_refl _) _
  have hn' : (1000 : Int) < (n : Int) := by omega
  unfold CV
  go_enter Try.func3, Try.ntmps3
  go_wp2_with fail
  go_ret
  exact ⟨rfl, B0.out⟩
set_option maxHeartbeats 4000000 in
theorem law_walk (nm : ByteArray) (ca : Option Addr) (n cc : Nat) (r s m : Int) {w : World} {a : Option Addr} {l : List Int} {c : Nat} (hn : n ≤ 1000) (hs : IL w a l) : Calls Try.prog 3 #[CV nm ca n cc r s m, .slice a l.length c] w fun e w' => e = .returned (.bool true) ∧ Below w.heap.size w w' := by
  have B0 : Hid (Below w.heap.size w (w.alloc (.cells #[.string nm, .slice ca n cc, .int .i64 r, .int .i64 s, .int .i64 m] 24))) := (Below.refl _ _).alloc (Nat.le_refl _) _
  have I0 : Hid (IHolds (w.alloc (.cells #[.string nm, .slice ca n cc, .int .i64 r, .int .i64 s, .int .i64 m] 24)) w.heap.size 24 [.string nm, .slice ca n cc, .int .i64 r, .int .i64 s, .int .i64 m]) := IHolds.new _ _ _
  have hn' : ¬ (1000 : Int) < (n : Int) := by omega
  have H4 : Hid (∀ W, Below w.heap.size w W → Calls Try.prog 4 #[CV nm ca n cc r s m, .slice a l.length c] W fun e w' => e = .returned (.int .i64 (fitsV l n r m)) ∧ Below W.heap.size W w') := fun W hB => fits4 nm ca n cc r s m hn (hs.of_below hB)
  have H5 : Hid (∀ W, Below w.heap.size w W → Calls Try.prog 5 #[CV nm ca n cc r s m, .slice a l.length c] W fun e w' => e = .returned (.int .i64 (fitsV l n r m)) ∧ Below W.heap.size W w') := fun W hB => fits5 nm ca n cc r s m hn (hs.of_below hB)
  clear hs hn
  generalize fitsV l n r m = V at *
  generalize l.length = L at *
  unfold CV at *
  go_enter Try.func3, Try.ntmps3
  go_wp2_with fail
  have HS : Hid (∀ W, Below (w.alloc (.cells #[.string nm, .slice ca n cc, .int .i64 r, .int .i64 s, .int .i64 m] 24)).heap.size (w.alloc (.cells #[.string nm, .slice ca n cc, .int .i64 r, .int .i64 s, .int .i64 m] 24)) W → IHolds W w.heap.size 24 [.string nm, .slice ca n cc, .int .i64 r, .int .i64 s, .int .i64 m]) := fun W hB => I0.out.of_below hB
  have HA : Hid (∀ W, Below (w.alloc (.cells #[.string nm, .slice ca n cc, .int .i64 r, .int .i64 s, .int .i64 m] 24)).heap.size (w.alloc (.cells #[.string nm, .slice ca n cc, .int .i64 r, .int .i64 s, .int .i64 m] 24)) W → Below w.heap.size w W) := fun W hB => B0.out.trans (hB.mono B0.out.size)
  generalize w.alloc (.cells #[.string nm, .slice ca n cc, .int .i64 r, .int .i64 s, .int .i64 m] 24) = w1 at *
  have b0 : Hid (Below w1.heap.size w1 w1.drew) := (Below.refl _ _).drew
  refine wp_region_held_drew (S := fun W => IHolds W w.heap.size 24 [.string nm, .slice ca n cc, .int .i64 r, .int .i64 s, .int .i64 m]) (by kernel_rfl) (HS.out _ b0.out) (fun hHeld => ?_)
  refine wpAnyH_take (i := 0) (v := .agg #[.string nm, .slice ca n cc, .int .i64 r, .int .i64 s, .int .i64 m]) rfl (by kernel_rfl) (by kernel_rfl) (by kernel_rfl) (fun _ _ _ h => h) (Or.inl ⟨by rfl, ?_⟩) hHeld ?_
  · intro W hS; have hS' := hS; obtain ⟨q0, q1, q2, q3, q4⟩ := five hS'; clear hS hS'; go_simp
  simp only [Act.put, List.getElem_toArray, List.getElem_cons_succ, List.getElem_cons_zero, List.setIfInBounds_toArray, List.set_cons_zero, List.set_cons_succ, Array.toArray_toList]
  refine wpAnyH_take (i := 1) (v := .slice a L c) rfl (by kernel_rfl) (by kernel_rfl) (by kernel_rfl) (fun _ _ _ h => h) (Or.inl ⟨by rfl, ?_⟩) hHeld ?_
  · intro W hS; go_simp
  simp only [Act.put, List.getElem_toArray, List.getElem_cons_succ, List.getElem_cons_zero, List.setIfInBounds_toArray, List.set_cons_zero, List.set_cons_succ, Array.toArray_toList]
  refine wpAnyH_take (i := 3) (v := .agg #[.string nm, .slice ca n cc, .int .i64 r, .int .i64 s, .int .i64 m]) rfl (by kernel_rfl) (by kernel_rfl) (by kernel_rfl) (fun _ _ _ h => h) (Or.inl ⟨by rfl, ?_⟩) hHeld ?_
  · intro W hS; have hS' := hS; obtain ⟨q0, q1, q2, q3, q4⟩ := five hS'; clear hS hS'; go_simp
  simp only [Act.put, List.getElem_toArray, List.getElem_cons_succ, List.getElem_cons_zero, List.setIfInBounds_toArray, List.set_cons_zero, List.set_cons_succ, Array.toArray_toList]
  refine wpAnyH_take (i := 4) (v := .slice a L c) rfl (by kernel_rfl) (by kernel_rfl) (by kernel_rfl) (fun _ _ _ h => h) (Or.inl ⟨by rfl, ?_⟩) hHeld ?_
  · intro W hS; go_simp
  simp only [Act.put, List.getElem_toArray, List.getElem_cons_succ, List.getElem_cons_zero, List.setIfInBounds_toArray, List.set_cons_zero, List.set_cons_succ, Array.toArray_toList]
  refine wpAnyH_ready (rs := [2]) (by kernel_rfl) (by simp) ?_
  refine AllReadyH.cons rfl (fun K hK => ?_) AllReadyH.nil
  go_simp
  refine (H4.out _ (HA.out _ b0.out)).mono ?_
  rintro e wa ⟨rfl, hbx⟩
  have b1 : Hid (Below w1.heap.size w1 wa) := b0.out.trans (hbx.mono b0.out.size)
  clear hbx
  go_wp2_with fail
  refine hK.out _ _ (HS.out _ b1.out) (fun hHeld2 => ?_)
  clear hK K
  try simp only [Act.put, List.getElem_toArray, List.getElem_cons_succ, List.getElem_cons_zero, List.setIfInBounds_toArray, List.set_cons_zero, List.set_cons_succ, Array.toArray_toList]
  refine wpAnyH_ready (rs := [5]) (by kernel_rfl) (by simp) ?_
  refine AllReadyH.cons rfl (fun K hK => ?_) AllReadyH.nil
  go_simp
  refine (H5.out _ (HA.out _ b1.out)).mono ?_
  rintro e wb ⟨rfl, hbx⟩
  have b2 : Hid (Below w1.heap.size w1 wb) := b1.out.trans (hbx.mono b1.out.size)
  clear hbx
  go_wp2_with fail
  refine hK.out _ _ (HS.out _ b2.out) (fun hHeld3 => ?_)
  clear hK K
  try simp only [Act.put, List.getElem_toArray, List.getElem_cons_succ, List.getElem_cons_zero, List.setIfInBounds_toArray, List.set_cons_zero, List.set_cons_succ, Array.toArray_toList]
  refine wpAnyH_take (i := 6) (v := .bool true) rfl (by kernel_rfl) (by kernel_rfl) (by kernel_rfl) (fun _ _ _ h => h) (Or.inl ⟨by rfl, ?_⟩) hHeld3 ?_
  · intro W hS; clear hS; go_simp
  simp only [Act.put, List.getElem_toArray, List.getElem_cons_succ, List.getElem_cons_zero, List.setIfInBounds_toArray, List.set_cons_zero, List.set_cons_succ, Array.toArray_toList]
  refine wpAnyH_take (i := 7) (v := .bool true) rfl (by kernel_rfl) (by kernel_rfl) (by kernel_rfl) (fun _ _ _ h => h) (Or.inl ⟨by rfl, ?_⟩) hHeld3 ?_
  · intro W hS; clear hS; go_simp
  simp only [Act.put, List.getElem_toArray, List.getElem_cons_succ, List.getElem_cons_zero, List.setIfInBounds_toArray, List.set_cons_zero, List.set_cons_succ, Array.toArray_toList]
  refine wpAnyH_done (by kernel_rfl) ?_ _
  go_wp2_with fail
  go_ret
  exact ⟨by simp, HA.out _ b2.out⟩
end Go.Proofs.Ytloifdbiigmjcaa
