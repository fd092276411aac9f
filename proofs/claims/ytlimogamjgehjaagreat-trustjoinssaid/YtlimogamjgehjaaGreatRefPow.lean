/- The reference: sums, products and powers modulo. -/
import Derived.Test.YtlimogamjgehjaaGreatIsRef
import Derived.Deep.CutBlock
import Derived.Deep.DeepCutAuto
set_option linter.unusedSimpArgs false
set_option linter.unusedVariables false
namespace Go.Proofs.YtlimogamjgehjaaGreat
open Go.RowKit Go.Deep Go.PlainAid

set_option maxRecDepth 100000 in
set_option maxHeartbeats 2000000 in
theorem add_words {w : World} {q : Nat} {qa : Option Addr} {ql qc : Nat} (NQ : Hid (NumV w 65536 q (.slice qa ql qc))) {pa : Option Addr} {pl pc : Nat} {S : Nat} {a b a1 r : Nat} {va vb : Value} (NA : Hid (NumV w 65536 a va)) (NB' : Hid (NumV w 65536 b vb))
    (C1 : Hid (∀ W v v', NumV W 65536 a v → NumV W 65536 b v' → Calls Tryz.prog 33 #[v, v'] W fun e w' => (∃ v, e = .returned v ∧ NumV w' 65536 a1 v) ∧ Below W.heap.size W w'))
    (C3 : Hid (∀ W v v', NumV W 65536 a1 v → NumV W 65536 q v' → Calls Tryz.prog 50 #[v, v'] W fun e w' => (∃ v, e = .returned v ∧ NumV w' 65536 r v) ∧ Below W.heap.size W w')) :
    Calls Tryz.prog 45 #[.agg #[.int .i64 (S : Int), .slice qa ql qc, .slice pa pl pc], va, vb] w fun e w' => (∃ v, e = .returned v ∧ NumV w' 65536 r v) ∧ Below w.heap.size w w' := by
  go_enter Tryz.func45, Tryz.ntmps45
  go_wp2_with fail
  obtain ⟨U1, hU1⟩ : ∃ X, X = (w.alloc (.cells #[(.int .i64 (S : Int)), (.slice qa ql qc), (.slice pa pl pc)] 41)) := ⟨_, rfl⟩
  have Jg : Hid (IHolds U1 (w.heap.size) 41 [(.int .i64 (S : Int)), (.slice qa ql qc), (.slice pa pl pc)]) := by
    have q := IHolds.new w 41 [(.int .i64 (S : Int)), (.slice qa ql qc), (.slice pa pl pc)]
    show IHolds _ _ _ _
    rw [hU1]
    exact q
  have B : Hid (Below w.heap.size w U1) := by
    show Below _ _ _
    rw [hU1]
    exact ((Below.refl _ w).alloc (Nat.le_refl _) _)
  rw [← hU1]
  have hb : Below w.heap.size w U1 := B.out
  replace NQ := aN NQ hb
  replace NA := aN NA hb
  replace NB' := aN NB' hb
  clear hb
  clear hU1
  have hb := dB U1
  replace B := aB B hb
  replace Jg := aJ Jg hb
  replace NQ := aN NQ hb
  replace NA := aN NA hb
  replace NB' := aN NB' hb
  clear hb
  refine wp_region_held_drew (S := fun W => (IHolds W (w.heap.size) 41 [(.int .i64 (S : Int)), (.slice qa ql qc), (.slice pa pl pc)])) (by kernel_rfl) Jg.out (fun hHeld1 => ?_)
  generalize U1.drew = U2 at *
  refine tk (i := 0) (v := va) rfl (by kernel_rfl) (fun _ _ _ h => h) rfl ?_ hHeld1 ?_
  · intro W hS; go_simp
  simp only [Act.put, y1, y2, y3, y4, y5, y6, y7]
  refine tk (i := 1) (v := vb) rfl (by kernel_rfl) (fun _ _ _ h => h) rfl ?_ hHeld1 ?_
  · intro W hS; go_simp
  simp only [Act.put, y1, y2, y3, y4, y5, y6, y7]
  refine tk (i := 3) (v := .pointer (some ⟨w.heap.size, 1, none⟩)) rfl (by kernel_rfl) (fun _ _ _ h => h) rfl ?_ hHeld1 ?_
  · intro W hS; go_simp
  simp only [Act.put, y1, y2, y3, y4, y5, y6, y7]
  refine tk (i := 4) (v := (.slice qa ql qc)) rfl (by kernel_rfl) (fun _ _ _ h => h) rfl ?_ hHeld1 ?_
  · intro W hS; have zg_0 : W.cell? ⟨w.heap.size, 0, none⟩ = some ((.int .i64 (S : Int))) := IHolds.cell (l := [(.int .i64 (S : Int)), (.slice qa ql qc), (.slice pa pl pc)]) (t := 41) (b := w.heap.size) (w := W) (hS) 0 (by simp); have zg_1 : W.cell? ⟨w.heap.size, 1, none⟩ = some ((.slice qa ql qc)) := IHolds.cell (l := [(.int .i64 (S : Int)), (.slice qa ql qc), (.slice pa pl pc)]) (t := 41) (b := w.heap.size) (w := W) (hS) 1 (by simp); have zg_2 : W.cell? ⟨w.heap.size, 2, none⟩ = some ((.slice pa pl pc)) := IHolds.cell (l := [(.int .i64 (S : Int)), (.slice qa ql qc), (.slice pa pl pc)]) (t := 41) (b := w.heap.size) (w := W) (hS) 2 (by simp); go_simp
  simp only [Act.put, y1, y2, y3, y4, y5, y6, y7]
  refine wpAnyH_ready (rs := [2]) (by kernel_rfl) (by simp) ?_
  refine AllReadyH.cons rfl (fun K hK => ?_) AllReadyH.nil
  clear hHeld1
  go_simp
  refine (C1.out U2 va vb NA.out NB'.out).mono ?_
  rintro e U3 ⟨⟨y1', rfl, hv⟩, hb⟩
  have Ny1' : Hid (NumV U3 65536 (a1) y1') := hv
  clear hv
  replace B := aB B hb
  replace Jg := aJ Jg hb
  replace NQ := aN NQ hb
  replace NA := aN NA hb
  replace NB' := aN NB' hb
  clear hb
  go_wp2_with fail
  refine hK.out _ _ (Jg.out) (fun hHeld2 => ?_)
  clear hK K
  try simp only [Act.put, y1, y2, y3, y4, y5, y6, y7]
  refine wpAnyH_ready (rs := [5]) (by kernel_rfl) (by simp) ?_
  refine AllReadyH.cons rfl (fun K hK => ?_) AllReadyH.nil
  clear hHeld2
  go_simp
  refine (C3.out U3 y1' (.slice qa ql qc) Ny1'.out NQ.out).mono ?_
  rintro e U4 ⟨⟨y3', rfl, hv⟩, hb⟩
  have Ny3' : Hid (NumV U4 65536 (r) y3') := hv
  clear hv
  replace B := aB B hb
  replace Jg := aJ Jg hb
  replace NQ := aN NQ hb
  replace NA := aN NA hb
  replace NB' := aN NB' hb
  replace Ny1' := aN Ny1' hb
  clear hb
  go_wp2_with fail
  refine hK.out _ _ (Jg.out) (fun hHeld3 => ?_)
  clear hK K
  try simp only [Act.put, y1, y2, y3, y4, y5, y6, y7]
  refine tk (i := 6) (v := y3') rfl (by kernel_rfl) (fun _ _ _ h => h) rfl ?_ hHeld3 ?_
  · intro W hS; go_simp
  simp only [Act.put, y1, y2, y3, y4, y5, y6, y7]
  refine wpAnyH_done (by kernel_rfl) ?_ _
  clear hHeld3
  go_wp2_with fail
  go_ret
  exact ⟨⟨_, rfl, Ny3'.out⟩, B.out⟩
set_option maxRecDepth 100000 in
set_option maxHeartbeats 2000000 in
theorem mul_words {w : World} {q : Nat} {qa : Option Addr} {ql qc : Nat} (NQ : Hid (NumV w 65536 q (.slice qa ql qc))) {pa : Option Addr} {pl pc : Nat} {S : Nat} {a b a1 r : Nat} {va vb : Value} (NA : Hid (NumV w 65536 a va)) (NB' : Hid (NumV w 65536 b vb))
    (C1 : Hid (∀ W v v', NumV W 65536 a v → NumV W 65536 b v' → Calls Tryz.prog 35 #[v, v'] W fun e w' => (∃ v, e = .returned v ∧ NumV w' 65536 a1 v) ∧ Below W.heap.size W w'))
    (C3 : Hid (∀ W v v', NumV W 65536 a1 v → NumV W 65536 q v' → Calls Tryz.prog 50 #[v, v'] W fun e w' => (∃ v, e = .returned v ∧ NumV w' 65536 r v) ∧ Below W.heap.size W w')) :
    Calls Tryz.prog 36 #[.agg #[.int .i64 (S : Int), .slice qa ql qc, .slice pa pl pc], va, vb] w fun e w' => (∃ v, e = .returned v ∧ NumV w' 65536 r v) ∧ Below w.heap.size w w' := by
  go_enter Tryz.func36, Tryz.ntmps36
  go_wp2_with fail
  obtain ⟨U1, hU1⟩ : ∃ X, X = (w.alloc (.cells #[(.int .i64 (S : Int)), (.slice qa ql qc), (.slice pa pl pc)] 41)) := ⟨_, rfl⟩
  have Jg : Hid (IHolds U1 (w.heap.size) 41 [(.int .i64 (S : Int)), (.slice qa ql qc), (.slice pa pl pc)]) := by
    have q := IHolds.new w 41 [(.int .i64 (S : Int)), (.slice qa ql qc), (.slice pa pl pc)]
    show IHolds _ _ _ _
    rw [hU1]
    exact q
  have B : Hid (Below w.heap.size w U1) := by
    show Below _ _ _
    rw [hU1]
    exact ((Below.refl _ w).alloc (Nat.le_refl _) _)
  rw [← hU1]
  have hb : Below w.heap.size w U1 := B.out
  replace NQ := aN NQ hb
  replace NA := aN NA hb
  replace NB' := aN NB' hb
  clear hb
  clear hU1
  have hb := dB U1
  replace B := aB B hb
  replace Jg := aJ Jg hb
  replace NQ := aN NQ hb
  replace NA := aN NA hb
  replace NB' := aN NB' hb
  clear hb
  refine wp_region_held_drew (S := fun W => (IHolds W (w.heap.size) 41 [(.int .i64 (S : Int)), (.slice qa ql qc), (.slice pa pl pc)])) (by kernel_rfl) Jg.out (fun hHeld1 => ?_)
  generalize U1.drew = U2 at *
  refine tk (i := 0) (v := va) rfl (by kernel_rfl) (fun _ _ _ h => h) rfl ?_ hHeld1 ?_
  · intro W hS; go_simp
  simp only [Act.put, y1, y2, y3, y4, y5, y6, y7]
  refine tk (i := 1) (v := vb) rfl (by kernel_rfl) (fun _ _ _ h => h) rfl ?_ hHeld1 ?_
  · intro W hS; go_simp
  simp only [Act.put, y1, y2, y3, y4, y5, y6, y7]
  refine tk (i := 3) (v := .pointer (some ⟨w.heap.size, 1, none⟩)) rfl (by kernel_rfl) (fun _ _ _ h => h) rfl ?_ hHeld1 ?_
  · intro W hS; go_simp
  simp only [Act.put, y1, y2, y3, y4, y5, y6, y7]
  refine tk (i := 4) (v := (.slice qa ql qc)) rfl (by kernel_rfl) (fun _ _ _ h => h) rfl ?_ hHeld1 ?_
  · intro W hS; have zg_0 : W.cell? ⟨w.heap.size, 0, none⟩ = some ((.int .i64 (S : Int))) := IHolds.cell (l := [(.int .i64 (S : Int)), (.slice qa ql qc), (.slice pa pl pc)]) (t := 41) (b := w.heap.size) (w := W) (hS) 0 (by simp); have zg_1 : W.cell? ⟨w.heap.size, 1, none⟩ = some ((.slice qa ql qc)) := IHolds.cell (l := [(.int .i64 (S : Int)), (.slice qa ql qc), (.slice pa pl pc)]) (t := 41) (b := w.heap.size) (w := W) (hS) 1 (by simp); have zg_2 : W.cell? ⟨w.heap.size, 2, none⟩ = some ((.slice pa pl pc)) := IHolds.cell (l := [(.int .i64 (S : Int)), (.slice qa ql qc), (.slice pa pl pc)]) (t := 41) (b := w.heap.size) (w := W) (hS) 2 (by simp); go_simp
  simp only [Act.put, y1, y2, y3, y4, y5, y6, y7]
  refine wpAnyH_ready (rs := [2]) (by kernel_rfl) (by simp) ?_
  refine AllReadyH.cons rfl (fun K hK => ?_) AllReadyH.nil
  clear hHeld1
  go_simp
  refine (C1.out U2 va vb NA.out NB'.out).mono ?_
  rintro e U3 ⟨⟨y1', rfl, hv⟩, hb⟩
  have Ny1' : Hid (NumV U3 65536 (a1) y1') := hv
  clear hv
  replace B := aB B hb
  replace Jg := aJ Jg hb
  replace NQ := aN NQ hb
  replace NA := aN NA hb
  replace NB' := aN NB' hb
  clear hb
  go_wp2_with fail
  refine hK.out _ _ (Jg.out) (fun hHeld2 => ?_)
  clear hK K
  try simp only [Act.put, y1, y2, y3, y4, y5, y6, y7]
  refine wpAnyH_ready (rs := [5]) (by kernel_rfl) (by simp) ?_
  refine AllReadyH.cons rfl (fun K hK => ?_) AllReadyH.nil
  clear hHeld2
  go_simp
  refine (C3.out U3 y1' (.slice qa ql qc) Ny1'.out NQ.out).mono ?_
  rintro e U4 ⟨⟨y3', rfl, hv⟩, hb⟩
  have Ny3' : Hid (NumV U4 65536 (r) y3') := hv
  clear hv
  replace B := aB B hb
  replace Jg := aJ Jg hb
  replace NQ := aN NQ hb
  replace NA := aN NA hb
  replace NB' := aN NB' hb
  replace Ny1' := aN Ny1' hb
  clear hb
  go_wp2_with fail
  refine hK.out _ _ (Jg.out) (fun hHeld3 => ?_)
  clear hK K
  try simp only [Act.put, y1, y2, y3, y4, y5, y6, y7]
  refine tk (i := 6) (v := y3') rfl (by kernel_rfl) (fun _ _ _ h => h) rfl ?_ hHeld3 ?_
  · intro W hS; go_simp
  simp only [Act.put, y1, y2, y3, y4, y5, y6, y7]
  refine wpAnyH_done (by kernel_rfl) ?_ _
  clear hHeld3
  go_wp2_with fail
  go_ret
  exact ⟨⟨_, rfl, Ny3'.out⟩, B.out⟩
set_option maxRecDepth 100000 in
set_option maxHeartbeats 2000000 in
theorem inv_words {w : World} {q : Nat} {qa : Option Addr} {ql qc : Nat} (NQ : Hid (NumV w 65536 q (.slice qa ql qc))) {pa : Option Addr} {pl pc : Nat} {S : Nat} {a n r : Nat} {va : Value} (NA : Hid (NumV w 65536 a va))
    (C1 : Hid (∀ W, Calls Tryz.prog 24 #[.int .i64 2] W fun e w' => (∃ v, e = .returned v ∧ NumV w' 65536 2 v) ∧ Below W.heap.size W w'))
    (C2 : Hid (∀ W v v', NumV W 65536 q v → NumV W 65536 2 v' → Calls Tryz.prog 57 #[v, v'] W fun e w' => (∃ v, e = .returned v ∧ NumV w' 65536 n v) ∧ Below W.heap.size W w'))
    (C3 : Hid (∀ W v v' v'', NumV W 65536 a v → NumV W 65536 n v' → NumV W 65536 q v'' → Calls Tryz.prog 51 #[v, v', v''] W fun e w' => (∃ v, e = .returned v ∧ NumV w' 65536 r v) ∧ Below W.heap.size W w')) :
    Calls Tryz.prog 38 #[.agg #[.int .i64 (S : Int), .slice qa ql qc, .slice pa pl pc], va] w fun e w' => (∃ v, e = .returned v ∧ NumV w' 65536 r v) ∧ Below w.heap.size w w' := by
  go_enter Tryz.func38, Tryz.ntmps38
  go_wp2_with fail
  obtain ⟨U1, hU1⟩ : ∃ X, X = (w.alloc (.cells #[(.int .i64 (S : Int)), (.slice qa ql qc), (.slice pa pl pc)] 41)) := ⟨_, rfl⟩
  have Jg : Hid (IHolds U1 (w.heap.size) 41 [(.int .i64 (S : Int)), (.slice qa ql qc), (.slice pa pl pc)]) := by
    have q := IHolds.new w 41 [(.int .i64 (S : Int)), (.slice qa ql qc), (.slice pa pl pc)]
    show IHolds _ _ _ _
    rw [hU1]
    exact q
  have B : Hid (Below w.heap.size w U1) := by
    show Below _ _ _
    rw [hU1]
    exact ((Below.refl _ w).alloc (Nat.le_refl _) _)
  rw [← hU1]
  have hb : Below w.heap.size w U1 := B.out
  replace NQ := aN NQ hb
  replace NA := aN NA hb
  clear hb
  clear hU1
  have hb := dB U1
  replace B := aB B hb
  replace Jg := aJ Jg hb
  replace NQ := aN NQ hb
  replace NA := aN NA hb
  clear hb
  refine wp_region_held_drew (S := fun W => (IHolds W (w.heap.size) 41 [(.int .i64 (S : Int)), (.slice qa ql qc), (.slice pa pl pc)])) (by kernel_rfl) Jg.out (fun hHeld1 => ?_)
  generalize U1.drew = U2 at *
  refine tk (i := 0) (v := va) rfl (by kernel_rfl) (fun _ _ _ h => h) rfl ?_ hHeld1 ?_
  · intro W hS; go_simp
  simp only [Act.put, y1, y2, y3, y4, y5, y6, y7]
  refine tk (i := 1) (v := .pointer (some ⟨w.heap.size, 1, none⟩)) rfl (by kernel_rfl) (fun _ _ _ h => h) rfl ?_ hHeld1 ?_
  · intro W hS; go_simp
  simp only [Act.put, y1, y2, y3, y4, y5, y6, y7]
  refine tk (i := 5) (v := .pointer (some ⟨w.heap.size, 1, none⟩)) rfl (by kernel_rfl) (fun _ _ _ h => h) rfl ?_ hHeld1 ?_
  · intro W hS; go_simp
  simp only [Act.put, y1, y2, y3, y4, y5, y6, y7]
  refine tk (i := 2) (v := (.slice qa ql qc)) rfl (by kernel_rfl) (fun _ _ _ h => h) rfl ?_ hHeld1 ?_
  · intro W hS; have zg_0 : W.cell? ⟨w.heap.size, 0, none⟩ = some ((.int .i64 (S : Int))) := IHolds.cell (l := [(.int .i64 (S : Int)), (.slice qa ql qc), (.slice pa pl pc)]) (t := 41) (b := w.heap.size) (w := W) (hS) 0 (by simp); have zg_1 : W.cell? ⟨w.heap.size, 1, none⟩ = some ((.slice qa ql qc)) := IHolds.cell (l := [(.int .i64 (S : Int)), (.slice qa ql qc), (.slice pa pl pc)]) (t := 41) (b := w.heap.size) (w := W) (hS) 1 (by simp); have zg_2 : W.cell? ⟨w.heap.size, 2, none⟩ = some ((.slice pa pl pc)) := IHolds.cell (l := [(.int .i64 (S : Int)), (.slice qa ql qc), (.slice pa pl pc)]) (t := 41) (b := w.heap.size) (w := W) (hS) 2 (by simp); go_simp
  simp only [Act.put, y1, y2, y3, y4, y5, y6, y7]
  refine tk (i := 6) (v := (.slice qa ql qc)) rfl (by kernel_rfl) (fun _ _ _ h => h) rfl ?_ hHeld1 ?_
  · intro W hS; have zg_0 : W.cell? ⟨w.heap.size, 0, none⟩ = some ((.int .i64 (S : Int))) := IHolds.cell (l := [(.int .i64 (S : Int)), (.slice qa ql qc), (.slice pa pl pc)]) (t := 41) (b := w.heap.size) (w := W) (hS) 0 (by simp); have zg_1 : W.cell? ⟨w.heap.size, 1, none⟩ = some ((.slice qa ql qc)) := IHolds.cell (l := [(.int .i64 (S : Int)), (.slice qa ql qc), (.slice pa pl pc)]) (t := 41) (b := w.heap.size) (w := W) (hS) 1 (by simp); have zg_2 : W.cell? ⟨w.heap.size, 2, none⟩ = some ((.slice pa pl pc)) := IHolds.cell (l := [(.int .i64 (S : Int)), (.slice qa ql qc), (.slice pa pl pc)]) (t := 41) (b := w.heap.size) (w := W) (hS) 2 (by simp); go_simp
  simp only [Act.put, y1, y2, y3, y4, y5, y6, y7]
  refine wpAnyH_ready (rs := [3]) (by kernel_rfl) (by simp) ?_
  refine AllReadyH.cons rfl (fun K hK => ?_) AllReadyH.nil
  clear hHeld1
  go_simp
  refine (C1.out U2).mono ?_
  rintro e U3 ⟨⟨y1', rfl, hv⟩, hb⟩
  have Ny1' : Hid (NumV U3 65536 (2) y1') := hv
  clear hv
  replace B := aB B hb
  replace Jg := aJ Jg hb
  replace NQ := aN NQ hb
  replace NA := aN NA hb
  clear hb
  go_wp2_with fail
  refine hK.out _ _ (Jg.out) (fun hHeld2 => ?_)
  clear hK K
  try simp only [Act.put, y1, y2, y3, y4, y5, y6, y7]
  refine wpAnyH_ready (rs := [4]) (by kernel_rfl) (by simp) ?_
  refine AllReadyH.cons rfl (fun K hK => ?_) AllReadyH.nil
  clear hHeld2
  go_simp
  refine (C2.out U3 (.slice qa ql qc) y1' NQ.out Ny1'.out).mono ?_
  rintro e U4 ⟨⟨y2', rfl, hv⟩, hb⟩
  have Ny2' : Hid (NumV U4 65536 (n) y2') := hv
  clear hv
  replace B := aB B hb
  replace Jg := aJ Jg hb
  replace NQ := aN NQ hb
  replace NA := aN NA hb
  replace Ny1' := aN Ny1' hb
  clear hb
  go_wp2_with fail
  refine hK.out _ _ (Jg.out) (fun hHeld3 => ?_)
  clear hK K
  try simp only [Act.put, y1, y2, y3, y4, y5, y6, y7]
  refine wpAnyH_ready (rs := [7]) (by kernel_rfl) (by simp) ?_
  refine AllReadyH.cons rfl (fun K hK => ?_) AllReadyH.nil
  clear hHeld3
  go_simp
  refine (C3.out U4 va y2' (.slice qa ql qc) NA.out Ny2'.out NQ.out).mono ?_
  rintro e U5 ⟨⟨y3', rfl, hv⟩, hb⟩
  have Ny3' : Hid (NumV U5 65536 (r) y3') := hv
  clear hv
  replace B := aB B hb
  replace Jg := aJ Jg hb
  replace NQ := aN NQ hb
  replace NA := aN NA hb
  replace Ny1' := aN Ny1' hb
  replace Ny2' := aN Ny2' hb
  clear hb
  go_wp2_with fail
  refine hK.out _ _ (Jg.out) (fun hHeld4 => ?_)
  clear hK K
  try simp only [Act.put, y1, y2, y3, y4, y5, y6, y7]
  refine tk (i := 8) (v := y3') rfl (by kernel_rfl) (fun _ _ _ h => h) rfl ?_ hHeld4 ?_
  · intro W hS; go_simp
  simp only [Act.put, y1, y2, y3, y4, y5, y6, y7]
  refine wpAnyH_done (by kernel_rfl) ?_ _
  clear hHeld4
  go_wp2_with fail
  go_ret
  exact ⟨⟨_, rfl, Ny3'.out⟩, B.out⟩
/-- What bits are as a number, the highest first. -/
def bval (L : List Nat) : Nat := L.foldl (fun x b => 2 * x + b) 0
theorem bval_snoc (L : List Nat) (b : Nat) : bval (L ++ [b]) = 2 * bval L + b := by simp [bval]
theorem bit_step (V d j : Nat) (hj : j < 16) : 2 * (V * 2 ^ j + d / 2 ^ (16 - j)) + d / (2 ^ (16 - j) / 2) % 2 = V * 2 ^ (j + 1) + d / 2 ^ (16 - (j + 1)) := by
  obtain ⟨k, hk⟩ : ∃ k, 16 - j = k + 1 := ⟨15 - j, by omega⟩
  have e : 16 - (j + 1) = k := by omega
  rw [hk, e, Nat.pow_succ 2 k, Nat.mul_div_cancel _ (by omega), ← Nat.div_div_eq_div_mul, Nat.pow_succ 2 j, ← Nat.mul_assoc V]
  omega
theorem half_step (j : Nat) : 2 ^ (16 - j) / 2 / 2 = 2 ^ (16 - (j + 1)) / 2 := by
  rcases Nat.lt_or_ge j 16 with h | h
  · obtain ⟨k, hk⟩ : ∃ k, 16 - j = k + 1 := ⟨15 - j, by omega⟩
    have e : 16 - (j + 1) = k := by omega
    rw [hk, e, Nat.pow_succ 2 k, Nat.mul_div_cancel _ (by omega)]
  · rw [show 16 - j = 0 by omega, show 16 - (j + 1) = 0 by omega]
theorem half_pos {j : Nat} (h : j < 16) : 0 < 2 ^ (16 - j) / 2 := by
  obtain ⟨k, hk⟩ : ∃ k, 16 - j = k + 1 := ⟨15 - j, by omega⟩
  rw [hk, Nat.pow_succ, Nat.mul_div_cancel _ (by omega)]
  exact Nat.pow_pos (by omega)
theorem half_le (j : Nat) : 2 ^ (16 - j) / 2 ≤ 32768 := by
  have : 2 ^ (16 - j) ≤ 2 ^ 16 := Nat.pow_le_pow_right (by omega) (by omega)
  omega
end Go.Proofs.YtlimogamjgehjaaGreat
