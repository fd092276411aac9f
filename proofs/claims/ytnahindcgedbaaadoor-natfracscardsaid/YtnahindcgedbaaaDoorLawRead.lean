/- The law's read. -/
import Derived.Test.YtnahindcgedbaaaDoorRefTimes
set_option linter.unusedSimpArgs false
set_option linter.unusedVariables false
namespace Go.Proofs.YtnahindcgedbaaaDoor
open Go.RowKit Go.Deep Go.PlainAid

set_option maxRecDepth 100000 in
set_option maxHeartbeats 2000000 in
theorem lawRead_any (a b : ByteArray) (N D : Nat) (w : World) (C1 : Hid (∀ W, Calls Tryd.prog 10 #[.string a] W fun e w' => (∃ v, e = .returned v ∧ NumV w' 10 N v) ∧ Below W.heap.size W w')) (C2 : Hid (∀ W, Calls Tryd.prog 10 #[.string b] W fun e w' => (∃ v, e = .returned v ∧ NumV w' 10 D v) ∧ Below W.heap.size W w')) :
    Calls Tryd.prog 27 #[.agg #[.string a, .string b]] w fun e w' => (∃ u1 u2, e = .returned (.agg #[u1, u2]) ∧ NumV w' 10 N u1 ∧ NumV w' 10 D u2) ∧ Below w.heap.size w w' := by
  go_enter Tryd.func27, Tryd.ntmps27
  go_wp2_with fail
  obtain ⟨W3, hW3⟩ : ∃ W3, W3 = (w.alloc (.cells #[.string a, .string b] 41)).alloc (.cells #[.slice none 0 0, .slice none 0 0] 43) := ⟨_, rfl⟩
  have q1 : IHolds W3 w.heap.size 41 [.string a, .string b] := by rw [hW3]; exact (IHolds.new w 41 [.string a, .string b]).alloc _
  have q2 : IHolds W3 (w.heap.size + 1) 43 [.slice none 0 0, .slice none 0 0] := by
    have := IHolds.new (w.alloc (.cells #[.string a, .string b] 41)) 43 [.slice none 0 0, .slice none 0 0]
    rw [World.size_alloc] at this
    rw [hW3]
    exact this
  have B0 : Hid (Below w.heap.size w W3.drew) := by
    have b : Below w.heap.size w W3 := by rw [hW3]; exact ((Below.refl _ w).alloc (Nat.le_refl _) _).alloc (by simp) _
    exact b.drew
  rw [← hW3]
  clear hW3
  have S0 : Hid (IHolds W3.drew w.heap.size 41 [.string a, .string b]) := q1.drew
  have J0 : Hid (IHolds W3.drew (w.heap.size + 1) 43 [.slice none 0 0, .slice none 0 0]) := q2.drew
  clear q1 q2
  refine wp_region_held_drew (S := fun W => IHolds W w.heap.size 41 [.string a, .string b]) (by kernel_rfl) S0.out (fun hHeld0 => ?_)
  generalize W3.drew = W0 at *
  refine wpAnyH_take (i := 0) (v := .pointer (some ⟨w.heap.size, 0, none⟩)) rfl (by kernel_rfl) (by kernel_rfl) (by kernel_rfl) (fun _ _ _ h => h) (Or.inl ⟨by rfl, ?_⟩) hHeld0 ?_
  · intro W hS
    have hS' : IHolds W w.heap.size 41 [.string a, .string b] := hS
    have z0 := hS'.two0
    have z1 := hS'.two1
    go_simp
  simp only [Act.put, List.getElem_toArray, List.getElem_cons_succ, List.getElem_cons_zero, List.setIfInBounds_toArray, List.set_cons_zero, List.set_cons_succ, Array.toArray_toList]
  refine wpAnyH_take (i := 1) (v := .string a) rfl (by kernel_rfl) (by kernel_rfl) (by kernel_rfl) (fun _ _ _ h => h) (Or.inl ⟨by rfl, ?_⟩) hHeld0 ?_
  · intro W hS
    have hS' : IHolds W w.heap.size 41 [.string a, .string b] := hS
    have z0 := hS'.two0
    have z1 := hS'.two1
    go_simp
  simp only [Act.put, List.getElem_toArray, List.getElem_cons_succ, List.getElem_cons_zero, List.setIfInBounds_toArray, List.set_cons_zero, List.set_cons_succ, Array.toArray_toList]
  refine wpAnyH_take (i := 3) (v := .pointer (some ⟨w.heap.size, 1, none⟩)) rfl (by kernel_rfl) (by kernel_rfl) (by kernel_rfl) (fun _ _ _ h => h) (Or.inl ⟨by rfl, ?_⟩) hHeld0 ?_
  · intro W hS
    have hS' : IHolds W w.heap.size 41 [.string a, .string b] := hS
    have z0 := hS'.two0
    have z1 := hS'.two1
    go_simp
  simp only [Act.put, List.getElem_toArray, List.getElem_cons_succ, List.getElem_cons_zero, List.setIfInBounds_toArray, List.set_cons_zero, List.set_cons_succ, Array.toArray_toList]
  refine wpAnyH_take (i := 4) (v := .string b) rfl (by kernel_rfl) (by kernel_rfl) (by kernel_rfl) (fun _ _ _ h => h) (Or.inl ⟨by rfl, ?_⟩) hHeld0 ?_
  · intro W hS
    have hS' : IHolds W w.heap.size 41 [.string a, .string b] := hS
    have z0 := hS'.two0
    have z1 := hS'.two1
    go_simp
  simp only [Act.put, List.getElem_toArray, List.getElem_cons_succ, List.getElem_cons_zero, List.setIfInBounds_toArray, List.set_cons_zero, List.set_cons_succ, Array.toArray_toList]
  refine wpAnyH_ready (rs := [2]) (by kernel_rfl) (by simp) ?_
  refine AllReadyH.cons rfl (fun K hK => ?_) AllReadyH.nil
  go_simp
  refine (C1.out W0).mono ?_
  rintro e W1 ⟨⟨u1, rfl, hv⟩, hb⟩
  have B1 : Hid (Below w.heap.size w W1) := B0.out.trans (hb.mono B0.out.size)
  have S1 : Hid (IHolds W1 w.heap.size 41 [.string a, .string b]) := S0.out.of_below hb
  have J1 : Hid (IHolds W1 (w.heap.size + 1) 43 [.slice none 0 0, .slice none 0 0]) := J0.out.of_below hb
  have Nu1 : Hid (NumV W1 10 N u1) := hv
  clear hv hb B0 S0 J0
  go_wp2_with fail
  refine hK.out _ _ S1.out (fun hHeld1 => ?_)
  clear hK K
  try simp only [Act.put, List.getElem_toArray, List.getElem_cons_succ, List.getElem_cons_zero, List.setIfInBounds_toArray, List.set_cons_zero, List.set_cons_succ, Array.toArray_toList]
  refine wpAnyH_ready (rs := [5]) (by kernel_rfl) (by simp) ?_
  refine AllReadyH.cons rfl (fun K hK => ?_) AllReadyH.nil
  go_simp
  refine (C2.out W1).mono ?_
  rintro e W2 ⟨⟨u2, rfl, hv⟩, hb⟩
  have B2 : Hid (Below w.heap.size w W2) := B1.out.trans (hb.mono B1.out.size)
  have S2 : Hid (IHolds W2 w.heap.size 41 [.string a, .string b]) := S1.out.of_below hb
  have J2 : Hid (IHolds W2 (w.heap.size + 1) 43 [.slice none 0 0, .slice none 0 0]) := J1.out.of_below hb
  have Nu1 : Hid (NumV W2 10 N u1) := Nu1.out.of_below hb
  have Nu2 : Hid (NumV W2 10 D u2) := hv
  clear hv hb B1 S1 J1
  obtain ⟨x1, L1, k1, rfl⟩ : ∃ a L c, u1 = .slice a L c := by obtain ⟨a, cap, h, _⟩ := Nu1.out; exact ⟨_, _, _, h⟩
  obtain ⟨x2, L2, k2, rfl⟩ : ∃ a L c, u2 = .slice a L c := by obtain ⟨a, cap, h, _⟩ := Nu2.out; exact ⟨_, _, _, h⟩
  go_wp2_with fail
  refine hK.out _ _ S2.out (fun hHeld2 => ?_)
  clear hK K
  try simp only [Act.put, List.getElem_toArray, List.getElem_cons_succ, List.getElem_cons_zero, List.setIfInBounds_toArray, List.set_cons_zero, List.set_cons_succ, Array.toArray_toList]
  refine wpAnyH_take (i := 6) (v := .agg #[.slice x1 L1 k1, .slice x2 L2 k2]) rfl (by kernel_rfl) (by kernel_rfl) (by kernel_rfl) (fun _ _ _ h => h) (Or.inl ⟨by rfl, ?_⟩) hHeld2 ?_
  · intro W hS
    have hS' : IHolds W w.heap.size 41 [.string a, .string b] := hS
    have z0 := hS'.two0
    have z1 := hS'.two1
    go_simp
  simp only [Act.put, List.getElem_toArray, List.getElem_cons_succ, List.getElem_cons_zero, List.setIfInBounds_toArray, List.set_cons_zero, List.set_cons_succ, Array.toArray_toList]
  refine wpAnyH_ready (rs := [7]) (by kernel_rfl) (by simp) ?_
  refine AllReadyH.cons rfl (fun K hK => ?_) AllReadyH.nil
  have I3 := J2.out
  have c0 := I3.two0
  have c1 := I3.two1
  have f0 : ∀ i, W2.frozen? ⟨w.heap.size + 1, i, none⟩ = false := fun i => I3.frozen i
  have I4 := (I3.set 0 (.slice x1 L1 k1)).set 1 (.slice x2 L2 k2)
  have hBut : But (w.heap.size + 1) W2 ((W2.setCell ⟨w.heap.size + 1, 0, none⟩ (.slice x1 L1 k1)).setCell ⟨w.heap.size + 1, 1, none⟩ (.slice x2 L2 k2)) := ((But.refl _ W2).setCell 0 _).setCell 1 _
  have UZ : Hid (NumV ((W2.setCell ⟨w.heap.size + 1, 0, none⟩ (.slice x1 L1 k1)).setCell ⟨w.heap.size + 1, 1, none⟩ (.slice x2 L2 k2)) 10 N (.slice x1 L1 k1)) := Nu1.out.apart I3 (by simp) hBut
  have XZ : Hid (NumV ((W2.setCell ⟨w.heap.size + 1, 0, none⟩ (.slice x1 L1 k1)).setCell ⟨w.heap.size + 1, 1, none⟩ (.slice x2 L2 k2)) 10 D (.slice x2 L2 k2)) := Nu2.out.apart I3 (by simp) hBut
  have BZ : Hid (Below w.heap.size w ((W2.setCell ⟨w.heap.size + 1, 0, none⟩ (.slice x1 L1 k1)).setCell ⟨w.heap.size + 1, 1, none⟩ (.slice x2 L2 k2))) := (B2.out.setCell (by show w.heap.size ≤ w.heap.size + 1; omega) _).setCell (by show w.heap.size ≤ w.heap.size + 1; omega) _
  have SZ : Hid (IHolds ((W2.setCell ⟨w.heap.size + 1, 0, none⟩ (.slice x1 L1 k1)).setCell ⟨w.heap.size + 1, 1, none⟩ (.slice x2 L2 k2)) w.heap.size 41 [.string a, .string b]) := S2.out.of_but hBut (by omega)
  have E0 : Hid (((W2.setCell ⟨w.heap.size + 1, 0, none⟩ (.slice x1 L1 k1)).setCell ⟨w.heap.size + 1, 1, none⟩ (.slice x2 L2 k2)).cell? ⟨w.heap.size + 1, 0, none⟩ = some (.slice x1 L1 k1)) := I4.cell 0 (by simp)
  have E1 : Hid (((W2.setCell ⟨w.heap.size + 1, 0, none⟩ (.slice x1 L1 k1)).setCell ⟨w.heap.size + 1, 1, none⟩ (.slice x2 L2 k2)).cell? ⟨w.heap.size + 1, 1, none⟩ = some (.slice x2 L2 k2)) := I4.cell 1 (by simp)
  clear I3 I4 hBut B2 S2 J2
  go_simp
  go_wp2_with fail
  refine hK.out _ _ SZ.out (fun hHeldZ => ?_)
  clear hK K c0 c1 f0
  try simp only [Act.put, List.getElem_toArray, List.getElem_cons_succ, List.getElem_cons_zero, List.setIfInBounds_toArray, List.set_cons_zero, List.set_cons_succ, Array.toArray_toList]
  generalize ((W2.setCell ⟨w.heap.size + 1, 0, none⟩ (.slice x1 L1 k1)).setCell ⟨w.heap.size + 1, 1, none⟩ (.slice x2 L2 k2)) = WZ at *
  refine wpAnyH_done (by kernel_rfl) ?_ _
  clear hHeld0 hHeld1 hHeld2 hHeldZ
  go_wp2_with fail
  exact bodyPost_ret (v := .agg #[.slice x1 L1 k1, .slice x2 L2 k2]) (by simp [results, Tryd.results27, go_sem, E0.out, E1.out]) rfl ⟨⟨_, _, rfl, UZ.out, XZ.out⟩, BZ.out⟩
end Go.Proofs.YtnahindcgedbaaaDoor
