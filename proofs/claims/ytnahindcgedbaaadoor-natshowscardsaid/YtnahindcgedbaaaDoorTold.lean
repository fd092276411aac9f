/- The walk of told: is a fraction's answer that of the document? -/
import Derived.Test.YtnahindcgedbaaaDoorLawRead
import Derived.Test.YtnahindcgedbaaaDoorAid
import Derived.Test.YtnahindcgedbaaaDoorHelp
set_option linter.unusedSimpArgs false
set_option linter.unusedVariables false
namespace Go.Proofs.YtnahindcgedbaaaDoor
open Go.RowKit Go.Deep Go.PlainAid

set_option maxRecDepth 100000 in
set_option maxHeartbeats 2000000 in
theorem told_bad {w : World} {p1 p2 : Value} (x : Int) (hx : (x != 0) = true) :
    Calls Tryd.prog 29 #[.agg #[.string ⟨#[]⟩, .string ⟨#[]⟩], .int .i64 x, .int .i64 x, .agg #[p1, p2]] w fun e w' => e = .returned (.bool true) ∧ Below w.heap.size w w' := by
  go_enter Tryd.func29, Tryd.ntmps29
  go_wp2_with fail
  go_ret
  refine ⟨by simp, ?_⟩
  exact ((Below.refl _ w).alloc (Nat.le_refl _) _).alloc (by simp) _

set_option maxRecDepth 100000 in
set_option maxHeartbeats 2000000 in
theorem told_ok {w : World} {p1 p2 : Value} (T1 T2 : ByteArray) (C1 : Hid (∀ W, Below w.heap.size w W → Calls Tryd.prog 13 #[p1] W fun e w' => e = .returned (.string T1) ∧ Below W.heap.size W w')) (C2 : Hid (∀ W, Below w.heap.size w W → Calls Tryd.prog 13 #[p2] W fun e w' => e = .returned (.string T2) ∧ Below W.heap.size W w')) :
    Calls Tryd.prog 29 #[.agg #[.string T1, .string T2], .int .i64 0, .int .i64 0, .agg #[p1, p2]] w fun e w' => e = .returned (.bool true) ∧ Below w.heap.size w w' := by
  go_enter Tryd.func29, Tryd.ntmps29
  go_wp2_with fail
  obtain ⟨U1, hU1⟩ : ∃ X, X = ((w.alloc (.cells #[(.string T1), (.string T2)] 41)).alloc (.cells #[p1, p2] 43)) := ⟨_, rfl⟩
  have Jx : Hid (IHolds U1 (w.heap.size) 41 [(.string T1), (.string T2)]) := by
    have q := IHolds.new w 41 [(.string T1), (.string T2)]
    show IHolds _ _ _ _
    rw [hU1]
    exact (q.alloc _)
  have Jq : Hid (IHolds U1 (w.heap.size + 1) 43 [p1, p2]) := by
    have q := IHolds.new (w.alloc (.cells #[(.string T1), (.string T2)] 41)) 43 [p1, p2]
    simp only [World.size_alloc, Nat.add_assoc, Nat.reduceAdd] at q
    show IHolds _ _ _ _
    rw [hU1]
    exact q
  have B : Hid (Below w.heap.size w U1) := by
    show Below _ _ _
    rw [hU1]
    exact (((Below.refl _ w).alloc (Nat.le_refl _) _).alloc (by simp only [World.size_alloc]; omega) _)
  rw [← hU1]
  clear hU1
  have hb := dB U1
  replace B := aB B hb
  replace Jx := aJ Jx hb
  replace Jq := aJ Jq hb
  clear hb
  refine wp_region_held_drew (S := fun W => (IHolds W (w.heap.size) 41 [(.string T1), (.string T2)]) ∧ (IHolds W (w.heap.size + 1) 43 [p1, p2])) (by kernel_rfl) ⟨Jx.out, Jq.out⟩ (fun hHeld1 => ?_)
  generalize U1.drew = U2 at *
  refine tk (i := 0) (v := .agg #[(.string T1), (.string T2)]) rfl (by kernel_rfl) (fun _ _ _ h => h) rfl ?_ hHeld1 ?_
  · intro W hS; obtain ⟨zx_0, zx_1⟩ := c2 hS.1; go_simp
  simp only [Act.put, y1, y2, y3, y4, y5, y6, y7]
  refine tk (i := 1) (v := .pointer (some ⟨w.heap.size + 1, 0, none⟩)) rfl (by kernel_rfl) (fun _ _ _ h => h) rfl ?_ hHeld1 ?_
  · intro W hS; go_simp
  simp only [Act.put, y1, y2, y3, y4, y5, y6, y7]
  refine tk (i := 4) (v := .pointer (some ⟨w.heap.size + 1, 1, none⟩)) rfl (by kernel_rfl) (fun _ _ _ h => h) rfl ?_ hHeld1 ?_
  · intro W hS; go_simp
  simp only [Act.put, y1, y2, y3, y4, y5, y6, y7]
  refine tk (i := 2) (v := p1) rfl (by kernel_rfl) (fun _ _ _ h => h) rfl ?_ hHeld1 ?_
  · intro W hS; obtain ⟨zq_0, zq_1⟩ := c2 hS.2; go_simp
  simp only [Act.put, y1, y2, y3, y4, y5, y6, y7]
  refine tk (i := 5) (v := p2) rfl (by kernel_rfl) (fun _ _ _ h => h) rfl ?_ hHeld1 ?_
  · intro W hS; obtain ⟨zq_0, zq_1⟩ := c2 hS.2; go_simp
  simp only [Act.put, y1, y2, y3, y4, y5, y6, y7]
  refine wpAnyH_ready (rs := [3]) (by kernel_rfl) (by simp) ?_
  refine AllReadyH.cons rfl (fun K hK => ?_) AllReadyH.nil
  clear hHeld1
  go_simp
  refine (C1.out U2 B.out).mono ?_
  rintro e U3 ⟨rfl, hb⟩
  replace B := aB B hb
  replace Jx := aJ Jx hb
  replace Jq := aJ Jq hb
  clear hb
  go_wp2_with fail
  refine hK.out _ _ (⟨Jx.out, Jq.out⟩) (fun hHeld2 => ?_)
  clear hK K
  try simp only [Act.put, y1, y2, y3, y4, y5, y6, y7]
  refine wpAnyH_ready (rs := [6]) (by kernel_rfl) (by simp) ?_
  refine AllReadyH.cons rfl (fun K hK => ?_) AllReadyH.nil
  clear hHeld2
  go_simp
  refine (C2.out U3 B.out).mono ?_
  rintro e U4 ⟨rfl, hb⟩
  replace B := aB B hb
  replace Jx := aJ Jx hb
  replace Jq := aJ Jq hb
  clear hb
  go_wp2_with fail
  refine hK.out _ _ (⟨Jx.out, Jq.out⟩) (fun hHeld3 => ?_)
  clear hK K
  try simp only [Act.put, y1, y2, y3, y4, y5, y6, y7]
  refine tk (i := 7) (v := .agg #[(.string T1), (.string T2)]) rfl (by kernel_rfl) (fun _ _ _ h => h) rfl ?_ hHeld3 ?_
  · intro W hS; go_simp
  simp only [Act.put, y1, y2, y3, y4, y5, y6, y7]
  refine tk (i := 8) (v := (.bool true)) rfl (by kernel_rfl) (fun _ _ _ h => h) rfl ?_ hHeld3 ?_
  · intro W hS; go_simp
  simp only [Act.put, y1, y2, y3, y4, y5, y6, y7]
  refine tk (i := 9) (v := (.bool true)) rfl (by kernel_rfl) (fun _ _ _ h => h) rfl ?_ hHeld3 ?_
  · intro W hS; go_simp
  simp only [Act.put, y1, y2, y3, y4, y5, y6, y7]
  refine tk (i := 10) (v := (.int .i64 0)) rfl (by kernel_rfl) (fun _ _ _ h => h) rfl ?_ hHeld3 ?_
  · intro W hS; go_simp
  simp only [Act.put, y1, y2, y3, y4, y5, y6, y7]
  refine tk (i := 11) (v := (.bool true)) rfl (by kernel_rfl) (fun _ _ _ h => h) rfl ?_ hHeld3 ?_
  · intro W hS; go_simp
  simp only [Act.put, y1, y2, y3, y4, y5, y6, y7]
  refine tk (i := 12) (v := (.bool true)) rfl (by kernel_rfl) (fun _ _ _ h => h) rfl ?_ hHeld3 ?_
  · intro W hS; go_simp
  simp only [Act.put, y1, y2, y3, y4, y5, y6, y7]
  refine tk (i := 13) (v := (.bool true)) rfl (by kernel_rfl) (fun _ _ _ h => h) rfl ?_ hHeld3 ?_
  · intro W hS; go_simp
  simp only [Act.put, y1, y2, y3, y4, y5, y6, y7]
  refine wpAnyH_done (by kernel_rfl) ?_ _
  clear hHeld3
  go_wp2_with fail
  go_ret
  exact ⟨rfl, B.out⟩

theorem toldV {w : World} {p1 p2 : Value} (n d : Nat) (h1 : NumV w 10 n p1) (h2 : NumV w 10 d p2) (b1 : (dg 10 n).length ≤ 1000000) (b2 : (dg 10 d).length ≤ 1000000) :
    Calls Tryd.prog 29 #[.agg #[.string (T n), .string (T d)], .int .i64 0, .int .i64 0, .agg #[p1, p2]] w fun e w' => e = .returned (.bool true) ∧ Below w.heap.size w w' :=
  told_ok _ _ (fun W hW => refTextV (h1.of_below hW) b1) (fun W hW => refTextV (h2.of_below hW) b2)
end Go.Proofs.YtnahindcgedbaaaDoor
