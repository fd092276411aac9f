/- The document's Say. -/
import Derived.Test.YtflabehlaiocaaaDoorGh
import Derived.Test.YtflabehlaiocaaaDoorReckonsWalk
set_option linter.unusedSimpArgs false
set_option linter.unusedVariables false
namespace Go.Proofs.YtflabehlaiocaaaDoor
open Go.RowKit Go.Deep Go.PlainAid

set_option maxRecDepth 100000 in
set_option maxHeartbeats 4000000 in
theorem say15_walk {n d : Nat} {p1 p2 : Value} {T1 T2 : ByteArray} {w : World} (h1 : NumV w 10 n p1) (h2 : NumV w 10 d p2) (C1 : Hid (∀ W v, NumV W 10 n v → Calls Tryd.prog 33 #[v] W fun e w' => e = .returned (.string T1) ∧ Below W.heap.size W w')) (C2 : Hid (∀ W v, NumV W 10 d v → Calls Tryd.prog 33 #[v] W fun e w' => e = .returned (.string T2) ∧ Below W.heap.size W w')) :
    Calls Tryd.prog 15 #[.agg #[p1, p2]] w fun e w' => e = .returned (.agg #[.string T1, .string T2]) ∧ Below w.heap.size w w' := by
  have Np1 : Hid (NumV w 10 n p1) := h1
  have Np2 : Hid (NumV w 10 d p2) := h2
  clear h1 h2
  go_enter Tryd.func15, Tryd.ntmps15
  go_wp2_with fail
  obtain ⟨U1, hU1⟩ : ∃ X, X = ((w.alloc (.cells #[p1, p2] 46)).alloc (.cells #[(.string ⟨#[]⟩), (.string ⟨#[]⟩)] 24)) := ⟨_, rfl⟩
  have Jx : Hid (IHolds U1 (w.heap.size) 46 [p1, p2]) := by
    have q := IHolds.new w 46 [p1, p2]
    show IHolds _ _ _ _
    rw [hU1]
    exact (q.alloc _)
  have Jr : Hid (IHolds U1 (w.heap.size + 1) 24 [(.string ⟨#[]⟩), (.string ⟨#[]⟩)]) := by
    have q := IHolds.new (w.alloc (.cells #[p1, p2] 46)) 24 [(.string ⟨#[]⟩), (.string ⟨#[]⟩)]
    simp only [World.size_alloc, Nat.add_assoc, Nat.reduceAdd] at q
    show IHolds _ _ _ _
    rw [hU1]
    exact q
  have B : Hid (Below w.heap.size w U1) := by
    show Below _ _ _
    rw [hU1]
    exact (((Below.refl _ w).alloc (Nat.le_refl _) _).alloc (by simp only [World.size_alloc]; omega) _)
  rw [← hU1]
  have hb : Below w.heap.size w U1 := B.out
  replace Np1 := aN Np1 hb
  replace Np2 := aN Np2 hb
  clear hb
  clear hU1
  have hb := dB U1
  replace B := aB B hb
  replace Jx := aJ Jx hb
  replace Jr := aJ Jr hb
  replace Np1 := aN Np1 hb
  replace Np2 := aN Np2 hb
  clear hb
  refine wp_region_held_drew (S := fun W => IHolds W (w.heap.size) 46 [p1, p2]) (by kernel_rfl) Jx.out (fun hHeld1 => ?_)
  generalize U1.drew = U2 at *
  refine tk (i := 0) (v := .pointer (some ⟨w.heap.size, 0, none⟩)) rfl (by kernel_rfl) (fun _ _ _ h => h) rfl ?_ hHeld1 ?_
  · intro W hS; go_simp
  simp only [Act.put, y1, y2, y3, y4, y5, y6, y7]
  refine tk (i := 3) (v := .pointer (some ⟨w.heap.size, 1, none⟩)) rfl (by kernel_rfl) (fun _ _ _ h => h) rfl ?_ hHeld1 ?_
  · intro W hS; go_simp
  simp only [Act.put, y1, y2, y3, y4, y5, y6, y7]
  refine tk (i := 1) (v := p1) rfl (by kernel_rfl) (fun _ _ _ h => h) rfl ?_ hHeld1 ?_
  · intro W hS; obtain ⟨zx_0, zx_1⟩ := c2 hS; go_simp
  simp only [Act.put, y1, y2, y3, y4, y5, y6, y7]
  refine tk (i := 4) (v := p2) rfl (by kernel_rfl) (fun _ _ _ h => h) rfl ?_ hHeld1 ?_
  · intro W hS; obtain ⟨zx_0, zx_1⟩ := c2 hS; go_simp
  simp only [Act.put, y1, y2, y3, y4, y5, y6, y7]
  refine wpAnyH_ready (rs := [2]) (by kernel_rfl) (by simp) ?_
  refine AllReadyH.cons rfl (fun K hK => ?_) AllReadyH.nil
  clear hHeld1
  go_simp
  refine (C1.out U2 _ Np1.out).mono ?_
  rintro e U3 ⟨rfl, hb⟩
  replace B := aB B hb
  replace Jx := aJ Jx hb
  replace Jr := aJ Jr hb
  replace Np1 := aN Np1 hb
  replace Np2 := aN Np2 hb
  clear hb
  go_wp2_with fail
  refine hK.out _ _ (Jx.out) (fun hHeld2 => ?_)
  clear hK K
  try simp only [Act.put, y1, y2, y3, y4, y5, y6, y7]
  refine wpAnyH_ready (rs := [5]) (by kernel_rfl) (by simp) ?_
  refine AllReadyH.cons rfl (fun K hK => ?_) AllReadyH.nil
  clear hHeld2
  go_simp
  refine (C2.out U3 _ Np2.out).mono ?_
  rintro e U4 ⟨rfl, hb⟩
  replace B := aB B hb
  replace Jx := aJ Jx hb
  replace Jr := aJ Jr hb
  replace Np1 := aN Np1 hb
  replace Np2 := aN Np2 hb
  clear hb
  go_wp2_with fail
  refine hK.out _ _ (Jx.out) (fun hHeld3 => ?_)
  clear hK K
  try simp only [Act.put, y1, y2, y3, y4, y5, y6, y7]
  refine tk (i := 6) (v := .agg #[(.string T1), (.string T2)]) rfl (by kernel_rfl) (fun _ _ _ h => h) rfl ?_ hHeld3 ?_
  · intro W hS; go_simp
  simp only [Act.put, y1, y2, y3, y4, y5, y6, y7]
  refine wpAnyH_ready (rs := [7]) (by kernel_rfl) (by simp) ?_
  refine AllReadyH.cons rfl (fun K hK => ?_) AllReadyH.nil
  clear hHeld3
  obtain ⟨zr_0, zr_1⟩ := cJ Jr
  have f0 := fJ Jr
  have hBut : But (w.heap.size + 1) U4 ((U4.setCell ⟨w.heap.size + 1, 0, none⟩ (.string T1)).setCell ⟨w.heap.size + 1, 1, none⟩ (.string T2)) := (((But.refl _ U4).setCell 0 (.string T1)).setCell 1 (.string T2))
  have I4 : Hid (IHolds _ (w.heap.size + 1) 24 [(.string T1), (.string T2)]) := ((Jr.out.set 0 (.string T1)).set 1 (.string T2))
  replace B : Hid (Below w.heap.size w ((U4.setCell ⟨w.heap.size + 1, 0, none⟩ (.string T1)).setCell ⟨w.heap.size + 1, 1, none⟩ (.string T2))) := ((B.out.setCell (by first | exact Nat.le_refl _ | exact ge_r.out | (show w.heap.size ≤ w.heap.size + 1; omega)) _).setCell (by first | exact Nat.le_refl _ | exact ge_r.out | (show w.heap.size ≤ w.heap.size + 1; omega)) _)
  replace Jx := tJ Jx hBut (by omega)
  replace Np1 := tN Np1 Jr (by simp) hBut
  replace Np2 := tN Np2 Jr (by simp) hBut
  replace Jr := I4
  clear I4 hBut
  go_simp
  try go_wp2_with fail
  clear zr_0 zr_1
  clear f0
  generalize ((U4.setCell ⟨w.heap.size + 1, 0, none⟩ (.string T1)).setCell ⟨w.heap.size + 1, 1, none⟩ (.string T2)) = U5 at *
  refine hK.out _ _ (Jx.out) (fun hHeld4 => ?_)
  clear hK K
  try simp only [Act.put, y1, y2, y3, y4, y5, y6, y7]
  refine wpAnyH_done (by kernel_rfl) ?_ _
  clear hHeld4
  go_wp2_with fail
  have E0 : Hid (U5.cell? ⟨w.heap.size + 1, 0, none⟩ = some ((.string T1))) := IHolds.cell (l := [(.string T1), (.string T2)]) (t := 24) (b := w.heap.size + 1) (w := U5) Jr.out 0 (by simp)
  have E1 : Hid (U5.cell? ⟨w.heap.size + 1, 1, none⟩ = some ((.string T2))) := IHolds.cell (l := [(.string T1), (.string T2)]) (t := 24) (b := w.heap.size + 1) (w := U5) Jr.out 1 (by simp)
  exact bodyPost_ret (v := .agg #[(.string T1), (.string T2)]) (by simp [results, Tryd.results15, go_sem, E0.out, E1.out]) rfl ⟨rfl, B.out⟩
theorem say15 {n d : Nat} {p1 p2 : Value} {w : World} (h1 : NumV w 10 n p1) (h2 : NumV w 10 d p2) (b1 : (dg 10 n).length ≤ 100000) (b2 : (dg 10 d).length ≤ 100000) :
    Calls Tryd.prog 15 #[.agg #[p1, p2]] w fun e w' => e = .returned (.agg #[.string (T n), .string (T d)]) ∧ Below w.heap.size w w' :=
  say15_walk h1 h2 (fun W v hv => refTextV hv (by omega)) (fun W v hv => refTextV hv (by omega))
end Go.Proofs.YtflabehlaiocaaaDoor
