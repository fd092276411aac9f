/- The reference: products and powers of elements. -/
import Derived.Test.YtohpbclofcflaaaGreatIsRef
set_option linter.unusedSimpArgs false
set_option linter.unusedVariables false
namespace Go.Proofs.YtohpbclofcflaaaGreat
open Go.RowKit Go.Deep Go.PlainAid

set_option maxRecDepth 100000 in
set_option maxHeartbeats 2000000 in
theorem low_hi {w : World} {q p S : Nat} {qa pa : Option Addr} {ql qc pl pc : Nat} (NQ : Hid (NumV w 65536 q (.slice qa ql qc))) (NP : Hid (NumV w 65536 p (.slice pa pl pc))) {a r : Nat} {va : Value} (NA : Hid (NumV w 65536 a va)) {c : Int} (hc : (0 : Int) < c ↔ True)
    (C1 : Hid (∀ W v v', NumV W 65536 a v → NumV W 65536 q v' → Calls Tryz.prog 41 #[v, v'] W fun e w' => e = .returned (.int .i64 c) ∧ Below W.heap.size W w')) (C2 : Hid (∀ W v v', NumV W 65536 p v → NumV W 65536 a v' → Calls Tryz.prog 72 #[v, v'] W fun e w' => (∃ v, e = .returned v ∧ NumV w' 65536 r v) ∧ Below W.heap.size W w')) :
    Calls Tryz.prog 63 #[.agg #[.int .i64 (S : Int), .slice qa ql qc, .slice pa pl pc], va] w fun e w' => (∃ v, e = .returned v ∧ NumV w' 65536 r v) ∧ Below w.heap.size w w' := by
  have hc1 : (0 : Int) < c := by simpa using hc
  clear hc
  have Jg : Hid (IHolds (w.alloc (.cells #[(.int .i64 (S : Int)), (.slice qa ql qc), (.slice pa pl pc)] 42)) w.heap.size 42 [(.int .i64 (S : Int)), (.slice qa ql qc), (.slice pa pl pc)]) := IHolds.new w 42 _
  have B : Hid (Below w.heap.size w (w.alloc (.cells #[(.int .i64 (S : Int)), (.slice qa ql qc), (.slice pa pl pc)] 42))) := nB _ _
  replace NQ := aN NQ B.out
  replace NP := aN NP B.out
  replace NA := aN NA B.out
  have zg0 : (w.alloc (.cells #[(.int .i64 (S : Int)), (.slice qa ql qc), (.slice pa pl pc)] 42)).cell? ⟨w.heap.size, 0, none⟩ = some (.int .i64 (S : Int)) := Jg.out.cell 0 (by simp)
  have zg1 : (w.alloc (.cells #[(.int .i64 (S : Int)), (.slice qa ql qc), (.slice pa pl pc)] 42)).cell? ⟨w.heap.size, 1, none⟩ = some (.slice qa ql qc) := Jg.out.cell 1 (by simp)
  have zg2 : (w.alloc (.cells #[(.int .i64 (S : Int)), (.slice qa ql qc), (.slice pa pl pc)] 42)).cell? ⟨w.heap.size, 2, none⟩ = some (.slice pa pl pc) := Jg.out.cell 2 (by simp)
  go_enter Tryz.func63, Tryz.ntmps63
  go_wp2_with fail
  clear zg0 zg1 zg2
  generalize (w.alloc (.cells #[(.int .i64 (S : Int)), (.slice qa ql qc), (.slice pa pl pc)] 42)) = V0 at *
  refine (C1.out V0 va (.slice qa ql qc) NA.out NQ.out).mono ?_
  rintro e U1 ⟨rfl, hb⟩
  replace B := aB B hb
  replace Jg := aJ Jg hb
  replace NQ := aN NQ hb
  replace NP := aN NP hb
  replace NA := aN NA hb
  clear hb
  have zg_0 : U1.cell? ⟨w.heap.size, 0, none⟩ = some ((.int .i64 (S : Int))) := IHolds.cell (l := [(.int .i64 (S : Int)), (.slice qa ql qc), (.slice pa pl pc)]) (t := 42) (b := w.heap.size) (w := U1) (Jg.out) 0 (by simp)
  have zg_1 : U1.cell? ⟨w.heap.size, 1, none⟩ = some ((.slice qa ql qc)) := IHolds.cell (l := [(.int .i64 (S : Int)), (.slice qa ql qc), (.slice pa pl pc)]) (t := 42) (b := w.heap.size) (w := U1) (Jg.out) 1 (by simp)
  have zg_2 : U1.cell? ⟨w.heap.size, 2, none⟩ = some ((.slice pa pl pc)) := IHolds.cell (l := [(.int .i64 (S : Int)), (.slice qa ql qc), (.slice pa pl pc)]) (t := 42) (b := w.heap.size) (w := U1) (Jg.out) 2 (by simp)
  go_wp2_with fail
  clear zg_0 zg_1 zg_2
  refine (C2.out U1 (.slice pa pl pc) va NP.out NA.out).mono ?_
  rintro e U2 ⟨⟨yr, rfl, hv⟩, hb⟩
  have Nyr : Hid (NumV U2 65536 (r) yr) := hv
  clear hv
  replace B := aB B hb
  replace Jg := aJ Jg hb
  replace NQ := aN NQ hb
  replace NP := aN NP hb
  replace NA := aN NA hb
  clear hb
  go_wp2_with fail
  go_ret
  exact ⟨⟨_, rfl, Nyr.out⟩, B.out⟩
set_option maxRecDepth 100000 in
set_option maxHeartbeats 2000000 in
theorem low_lo {w : World} {q p S : Nat} {qa pa : Option Addr} {ql qc pl pc : Nat} (NQ : Hid (NumV w 65536 q (.slice qa ql qc))) (NP : Hid (NumV w 65536 p (.slice pa pl pc))) {a r : Nat} {va : Value} (NA : Hid (NumV w 65536 a va)) {c : Int} (hc : (0 : Int) < c ↔ False)
    (C1 : Hid (∀ W v v', NumV W 65536 a v → NumV W 65536 q v' → Calls Tryz.prog 41 #[v, v'] W fun e w' => e = .returned (.int .i64 c) ∧ Below W.heap.size W w'))  :
    Calls Tryz.prog 63 #[.agg #[.int .i64 (S : Int), .slice qa ql qc, .slice pa pl pc], va] w fun e w' => (∃ v, e = .returned v ∧ NumV w' 65536 a v) ∧ Below w.heap.size w w' := by
  have hc1 : ¬ (0 : Int) < c := by simpa using hc
  clear hc
  have Jg : Hid (IHolds (w.alloc (.cells #[(.int .i64 (S : Int)), (.slice qa ql qc), (.slice pa pl pc)] 42)) w.heap.size 42 [(.int .i64 (S : Int)), (.slice qa ql qc), (.slice pa pl pc)]) := IHolds.new w 42 _
  have B : Hid (Below w.heap.size w (w.alloc (.cells #[(.int .i64 (S : Int)), (.slice qa ql qc), (.slice pa pl pc)] 42))) := nB _ _
  replace NQ := aN NQ B.out
  replace NP := aN NP B.out
  replace NA := aN NA B.out
  have zg0 : (w.alloc (.cells #[(.int .i64 (S : Int)), (.slice qa ql qc), (.slice pa pl pc)] 42)).cell? ⟨w.heap.size, 0, none⟩ = some (.int .i64 (S : Int)) := Jg.out.cell 0 (by simp)
  have zg1 : (w.alloc (.cells #[(.int .i64 (S : Int)), (.slice qa ql qc), (.slice pa pl pc)] 42)).cell? ⟨w.heap.size, 1, none⟩ = some (.slice qa ql qc) := Jg.out.cell 1 (by simp)
  have zg2 : (w.alloc (.cells #[(.int .i64 (S : Int)), (.slice qa ql qc), (.slice pa pl pc)] 42)).cell? ⟨w.heap.size, 2, none⟩ = some (.slice pa pl pc) := Jg.out.cell 2 (by simp)
  go_enter Tryz.func63, Tryz.ntmps63
  go_wp2_with fail
  clear zg0 zg1 zg2
  generalize (w.alloc (.cells #[(.int .i64 (S : Int)), (.slice qa ql qc), (.slice pa pl pc)] 42)) = V0 at *
  refine (C1.out V0 va (.slice qa ql qc) NA.out NQ.out).mono ?_
  rintro e U1 ⟨rfl, hb⟩
  replace B := aB B hb
  replace Jg := aJ Jg hb
  replace NQ := aN NQ hb
  replace NP := aN NP hb
  replace NA := aN NA hb
  clear hb
  have zg_0 : U1.cell? ⟨w.heap.size, 0, none⟩ = some ((.int .i64 (S : Int))) := IHolds.cell (l := [(.int .i64 (S : Int)), (.slice qa ql qc), (.slice pa pl pc)]) (t := 42) (b := w.heap.size) (w := U1) (Jg.out) 0 (by simp)
  have zg_1 : U1.cell? ⟨w.heap.size, 1, none⟩ = some ((.slice qa ql qc)) := IHolds.cell (l := [(.int .i64 (S : Int)), (.slice qa ql qc), (.slice pa pl pc)]) (t := 42) (b := w.heap.size) (w := U1) (Jg.out) 1 (by simp)
  have zg_2 : U1.cell? ⟨w.heap.size, 2, none⟩ = some ((.slice pa pl pc)) := IHolds.cell (l := [(.int .i64 (S : Int)), (.slice qa ql qc), (.slice pa pl pc)]) (t := 42) (b := w.heap.size) (w := U1) (Jg.out) 2 (by simp)
  go_wp2_with fail
  clear zg_0 zg_1 zg_2
  go_ret
  exact ⟨⟨_, rfl, NA.out⟩, B.out⟩
set_option maxRecDepth 100000 in
set_option maxHeartbeats 2000000 in
theorem product_words {w : World} {q p S : Nat} {qa pa : Option Addr} {ql qc pl pc : Nat} (NQ : Hid (NumV w 65536 q (.slice qa ql qc))) (NP : Hid (NumV w 65536 p (.slice pa pl pc))) {a b r0 r1 r : Nat} {va vb : Value} (NA : Hid (NumV w 65536 a va)) (NB' : Hid (NumV w 65536 b vb))
    (C1 : Hid (∀ W v v', NumV W 65536 a v → NumV W 65536 b v' → Calls Tryz.prog 40 #[v, v'] W fun e w' => (∃ v, e = .returned v ∧ NumV w' 65536 r0 v) ∧ Below W.heap.size W w'))
    (C2 : Hid (∀ W v v', NumV W 65536 r0 v → NumV W 65536 p v' → Calls Tryz.prog 64 #[v, v'] W fun e w' => (∃ v, e = .returned v ∧ NumV w' 65536 r1 v) ∧ Below W.heap.size W w'))
    (CLo : Hid (∀ W v, NumV W 65536 q (.slice qa ql qc) → NumV W 65536 p (.slice pa pl pc) → NumV W 65536 r1 v → Calls Tryz.prog 63 #[.agg #[.int .i64 (S : Int), .slice qa ql qc, .slice pa pl pc], v] W fun e w' => (∃ v, e = .returned v ∧ NumV w' 65536 r v) ∧ Below W.heap.size W w')) :
    Calls Tryz.prog 42 #[.agg #[.int .i64 (S : Int), .slice qa ql qc, .slice pa pl pc], va, vb] w fun e w' => (∃ v, e = .returned v ∧ NumV w' 65536 r v) ∧ Below w.heap.size w w' := by
  go_enter Tryz.func42, Tryz.ntmps42
  go_wp2_with fail
  obtain ⟨U1, hU1⟩ : ∃ X, X = (w.alloc (.cells #[(.int .i64 (S : Int)), (.slice qa ql qc), (.slice pa pl pc)] 42)) := ⟨_, rfl⟩
  have Jg : Hid (IHolds U1 (w.heap.size) 42 [(.int .i64 (S : Int)), (.slice qa ql qc), (.slice pa pl pc)]) := by
    have q := IHolds.new w 42 [(.int .i64 (S : Int)), (.slice qa ql qc), (.slice pa pl pc)]
    show IHolds _ _ _ _
    rw [hU1]
    exact q
  have B : Hid (Below w.heap.size w U1) := by
    show Below _ _ _
    rw [hU1]
    exact ((Below.refl _ w).alloc (Nat.le_refl _) _)
  rw [← hU1]
  have hb : Below w.heap.size w U1 := B.out
  replace NQ := aN NQ hb
  replace NP := aN NP hb
  replace NA := aN NA hb
  replace NB' := aN NB' hb
  clear hb
  clear hU1
  have hb := dB U1
  replace B := aB B hb
  replace Jg := aJ Jg hb
  replace NQ := aN NQ hb
  replace NP := aN NP hb
  replace NA := aN NA hb
  replace NB' := aN NB' hb
  clear hb
  refine wp_region_held_drew (S := fun W => (IHolds W (w.heap.size) 42 [(.int .i64 (S : Int)), (.slice qa ql qc), (.slice pa pl pc)])) (by kernel_rfl) Jg.out (fun hHeld1 => ?_)
  generalize U1.drew = U2 at *
  refine tk (i := 0) (v := .agg #[(.int .i64 (S : Int)), (.slice qa ql qc), (.slice pa pl pc)]) rfl (by kernel_rfl) (fun _ _ _ h => h) rfl ?_ hHeld1 ?_
  · intro W hS; have zg_0 : W.cell? ⟨w.heap.size, 0, none⟩ = some ((.int .i64 (S : Int))) := IHolds.cell (l := [(.int .i64 (S : Int)), (.slice qa ql qc), (.slice pa pl pc)]) (t := 42) (b := w.heap.size) (w := W) (hS) 0 (by simp); have zg_1 : W.cell? ⟨w.heap.size, 1, none⟩ = some ((.slice qa ql qc)) := IHolds.cell (l := [(.int .i64 (S : Int)), (.slice qa ql qc), (.slice pa pl pc)]) (t := 42) (b := w.heap.size) (w := W) (hS) 1 (by simp); have zg_2 : W.cell? ⟨w.heap.size, 2, none⟩ = some ((.slice pa pl pc)) := IHolds.cell (l := [(.int .i64 (S : Int)), (.slice qa ql qc), (.slice pa pl pc)]) (t := 42) (b := w.heap.size) (w := W) (hS) 2 (by simp); go_simp
  simp only [Act.put, y1, y2, y3, y4, y5, y6, y7]
  refine tk (i := 1) (v := va) rfl (by kernel_rfl) (fun _ _ _ h => h) rfl ?_ hHeld1 ?_
  · intro W hS; go_simp
  simp only [Act.put, y1, y2, y3, y4, y5, y6, y7]
  refine tk (i := 2) (v := vb) rfl (by kernel_rfl) (fun _ _ _ h => h) rfl ?_ hHeld1 ?_
  · intro W hS; go_simp
  simp only [Act.put, y1, y2, y3, y4, y5, y6, y7]
  refine tk (i := 4) (v := .pointer (some ⟨w.heap.size, 2, none⟩)) rfl (by kernel_rfl) (fun _ _ _ h => h) rfl ?_ hHeld1 ?_
  · intro W hS; go_simp
  simp only [Act.put, y1, y2, y3, y4, y5, y6, y7]
  refine tk (i := 5) (v := (.slice pa pl pc)) rfl (by kernel_rfl) (fun _ _ _ h => h) rfl ?_ hHeld1 ?_
  · intro W hS; have zg_0 : W.cell? ⟨w.heap.size, 0, none⟩ = some ((.int .i64 (S : Int))) := IHolds.cell (l := [(.int .i64 (S : Int)), (.slice qa ql qc), (.slice pa pl pc)]) (t := 42) (b := w.heap.size) (w := W) (hS) 0 (by simp); have zg_1 : W.cell? ⟨w.heap.size, 1, none⟩ = some ((.slice qa ql qc)) := IHolds.cell (l := [(.int .i64 (S : Int)), (.slice qa ql qc), (.slice pa pl pc)]) (t := 42) (b := w.heap.size) (w := W) (hS) 1 (by simp); have zg_2 : W.cell? ⟨w.heap.size, 2, none⟩ = some ((.slice pa pl pc)) := IHolds.cell (l := [(.int .i64 (S : Int)), (.slice qa ql qc), (.slice pa pl pc)]) (t := 42) (b := w.heap.size) (w := W) (hS) 2 (by simp); go_simp
  simp only [Act.put, y1, y2, y3, y4, y5, y6, y7]
  refine wpAnyH_ready (rs := [3]) (by kernel_rfl) (by simp) ?_
  refine AllReadyH.cons rfl (fun K hK => ?_) AllReadyH.nil
  clear hHeld1
  go_simp
  refine (C1.out U2 va vb NA.out NB'.out).mono ?_
  rintro e U3 ⟨⟨y0, rfl, hv⟩, hb⟩
  have Ny0 : Hid (NumV U3 65536 (r0) y0) := hv
  clear hv
  replace B := aB B hb
  replace Jg := aJ Jg hb
  replace NQ := aN NQ hb
  replace NP := aN NP hb
  replace NA := aN NA hb
  replace NB' := aN NB' hb
  clear hb
  go_wp2_with fail
  refine hK.out _ _ (Jg.out) (fun hHeld2 => ?_)
  clear hK K
  try simp only [Act.put, y1, y2, y3, y4, y5, y6, y7]
  refine wpAnyH_ready (rs := [6]) (by kernel_rfl) (by simp) ?_
  refine AllReadyH.cons rfl (fun K hK => ?_) AllReadyH.nil
  clear hHeld2
  go_simp
  refine (C2.out U3 y0 (.slice pa pl pc) Ny0.out NP.out).mono ?_
  rintro e U4 ⟨⟨yy1, rfl, hv⟩, hb⟩
  have Nyy1 : Hid (NumV U4 65536 (r1) yy1) := hv
  clear hv
  replace B := aB B hb
  replace Jg := aJ Jg hb
  replace NQ := aN NQ hb
  replace NP := aN NP hb
  replace NA := aN NA hb
  replace NB' := aN NB' hb
  replace Ny0 := aN Ny0 hb
  clear hb
  go_wp2_with fail
  refine hK.out _ _ (Jg.out) (fun hHeld3 => ?_)
  clear hK K
  try simp only [Act.put, y1, y2, y3, y4, y5, y6, y7]
  refine wpAnyH_ready (rs := [7]) (by kernel_rfl) (by simp) ?_
  refine AllReadyH.cons rfl (fun K hK => ?_) AllReadyH.nil
  clear hHeld3
  go_simp
  refine (CLo.out U4 yy1 NQ.out NP.out Nyy1.out).mono ?_
  rintro e U5 ⟨⟨y9, rfl, hv⟩, hb⟩
  have Ny9 : Hid (NumV U5 65536 (r) y9) := hv
  clear hv
  replace B := aB B hb
  replace Jg := aJ Jg hb
  replace NQ := aN NQ hb
  replace NP := aN NP hb
  replace NA := aN NA hb
  replace NB' := aN NB' hb
  replace Ny0 := aN Ny0 hb
  replace Nyy1 := aN Nyy1 hb
  clear hb
  go_wp2_with fail
  refine hK.out _ _ (Jg.out) (fun hHeld4 => ?_)
  clear hK K
  try simp only [Act.put, y1, y2, y3, y4, y5, y6, y7]
  refine tk (i := 8) (v := y9) rfl (by kernel_rfl) (fun _ _ _ h => h) rfl ?_ hHeld4 ?_
  · intro W hS; go_simp
  simp only [Act.put, y1, y2, y3, y4, y5, y6, y7]
  refine wpAnyH_done (by kernel_rfl) ?_ _
  clear hHeld4
  go_wp2_with fail
  go_ret
  exact ⟨⟨_, rfl, Ny9.out⟩, B.out⟩
set_option maxRecDepth 100000 in
set_option maxHeartbeats 2000000 in
theorem power_words {w : World} {q p S : Nat} {qa pa : Option Addr} {ql qc pl pc : Nat} (NQ : Hid (NumV w 65536 q (.slice qa ql qc))) (NP : Hid (NumV w 65536 p (.slice pa pl pc))) {a b r1 r : Nat} {va vb : Value} (NA : Hid (NumV w 65536 a va)) (NB' : Hid (NumV w 65536 b vb))
    (C1 : Hid (∀ W v v' v'', NumV W 65536 a v → NumV W 65536 b v' → NumV W 65536 p v'' → Calls Tryz.prog 65 #[v, v', v''] W fun e w' => (∃ v, e = .returned v ∧ NumV w' 65536 r1 v) ∧ Below W.heap.size W w'))
    (CLo : Hid (∀ W v, NumV W 65536 q (.slice qa ql qc) → NumV W 65536 p (.slice pa pl pc) → NumV W 65536 r1 v → Calls Tryz.prog 63 #[.agg #[.int .i64 (S : Int), .slice qa ql qc, .slice pa pl pc], v] W fun e w' => (∃ v, e = .returned v ∧ NumV w' 65536 r v) ∧ Below W.heap.size W w')) :
    Calls Tryz.prog 44 #[.agg #[.int .i64 (S : Int), .slice qa ql qc, .slice pa pl pc], va, vb] w fun e w' => (∃ v, e = .returned v ∧ NumV w' 65536 r v) ∧ Below w.heap.size w w' := by
  go_enter Tryz.func44, Tryz.ntmps44
  go_wp2_with fail
  obtain ⟨U1, hU1⟩ : ∃ X, X = (w.alloc (.cells #[(.int .i64 (S : Int)), (.slice qa ql qc), (.slice pa pl pc)] 42)) := ⟨_, rfl⟩
  have Jg : Hid (IHolds U1 (w.heap.size) 42 [(.int .i64 (S : Int)), (.slice qa ql qc), (.slice pa pl pc)]) := by
    have q := IHolds.new w 42 [(.int .i64 (S : Int)), (.slice qa ql qc), (.slice pa pl pc)]
    show IHolds _ _ _ _
    rw [hU1]
    exact q
  have B : Hid (Below w.heap.size w U1) := by
    show Below _ _ _
    rw [hU1]
    exact ((Below.refl _ w).alloc (Nat.le_refl _) _)
  rw [← hU1]
  have hb : Below w.heap.size w U1 := B.out
  replace NQ := aN NQ hb
  replace NP := aN NP hb
  replace NA := aN NA hb
  replace NB' := aN NB' hb
  clear hb
  clear hU1
  have hb := dB U1
  replace B := aB B hb
  replace Jg := aJ Jg hb
  replace NQ := aN NQ hb
  replace NP := aN NP hb
  replace NA := aN NA hb
  replace NB' := aN NB' hb
  clear hb
  refine wp_region_held_drew (S := fun W => (IHolds W (w.heap.size) 42 [(.int .i64 (S : Int)), (.slice qa ql qc), (.slice pa pl pc)])) (by kernel_rfl) Jg.out (fun hHeld1 => ?_)
  generalize U1.drew = U2 at *
  refine tk (i := 0) (v := .agg #[(.int .i64 (S : Int)), (.slice qa ql qc), (.slice pa pl pc)]) rfl (by kernel_rfl) (fun _ _ _ h => h) rfl ?_ hHeld1 ?_
  · intro W hS; have zg_0 : W.cell? ⟨w.heap.size, 0, none⟩ = some ((.int .i64 (S : Int))) := IHolds.cell (l := [(.int .i64 (S : Int)), (.slice qa ql qc), (.slice pa pl pc)]) (t := 42) (b := w.heap.size) (w := W) (hS) 0 (by simp); have zg_1 : W.cell? ⟨w.heap.size, 1, none⟩ = some ((.slice qa ql qc)) := IHolds.cell (l := [(.int .i64 (S : Int)), (.slice qa ql qc), (.slice pa pl pc)]) (t := 42) (b := w.heap.size) (w := W) (hS) 1 (by simp); have zg_2 : W.cell? ⟨w.heap.size, 2, none⟩ = some ((.slice pa pl pc)) := IHolds.cell (l := [(.int .i64 (S : Int)), (.slice qa ql qc), (.slice pa pl pc)]) (t := 42) (b := w.heap.size) (w := W) (hS) 2 (by simp); go_simp
  simp only [Act.put, y1, y2, y3, y4, y5, y6, y7]
  refine tk (i := 1) (v := va) rfl (by kernel_rfl) (fun _ _ _ h => h) rfl ?_ hHeld1 ?_
  · intro W hS; go_simp
  simp only [Act.put, y1, y2, y3, y4, y5, y6, y7]
  refine tk (i := 2) (v := vb) rfl (by kernel_rfl) (fun _ _ _ h => h) rfl ?_ hHeld1 ?_
  · intro W hS; go_simp
  simp only [Act.put, y1, y2, y3, y4, y5, y6, y7]
  refine tk (i := 3) (v := .pointer (some ⟨w.heap.size, 2, none⟩)) rfl (by kernel_rfl) (fun _ _ _ h => h) rfl ?_ hHeld1 ?_
  · intro W hS; go_simp
  simp only [Act.put, y1, y2, y3, y4, y5, y6, y7]
  refine tk (i := 4) (v := (.slice pa pl pc)) rfl (by kernel_rfl) (fun _ _ _ h => h) rfl ?_ hHeld1 ?_
  · intro W hS; have zg_0 : W.cell? ⟨w.heap.size, 0, none⟩ = some ((.int .i64 (S : Int))) := IHolds.cell (l := [(.int .i64 (S : Int)), (.slice qa ql qc), (.slice pa pl pc)]) (t := 42) (b := w.heap.size) (w := W) (hS) 0 (by simp); have zg_1 : W.cell? ⟨w.heap.size, 1, none⟩ = some ((.slice qa ql qc)) := IHolds.cell (l := [(.int .i64 (S : Int)), (.slice qa ql qc), (.slice pa pl pc)]) (t := 42) (b := w.heap.size) (w := W) (hS) 1 (by simp); have zg_2 : W.cell? ⟨w.heap.size, 2, none⟩ = some ((.slice pa pl pc)) := IHolds.cell (l := [(.int .i64 (S : Int)), (.slice qa ql qc), (.slice pa pl pc)]) (t := 42) (b := w.heap.size) (w := W) (hS) 2 (by simp); go_simp
  simp only [Act.put, y1, y2, y3, y4, y5, y6, y7]
  refine wpAnyH_ready (rs := [5]) (by kernel_rfl) (by simp) ?_
  refine AllReadyH.cons rfl (fun K hK => ?_) AllReadyH.nil
  clear hHeld1
  go_simp
  refine (C1.out U2 va vb (.slice pa pl pc) NA.out NB'.out NP.out).mono ?_
  rintro e U3 ⟨⟨yy1, rfl, hv⟩, hb⟩
  have Nyy1 : Hid (NumV U3 65536 (r1) yy1) := hv
  clear hv
  replace B := aB B hb
  replace Jg := aJ Jg hb
  replace NQ := aN NQ hb
  replace NP := aN NP hb
  replace NA := aN NA hb
  replace NB' := aN NB' hb
  clear hb
  go_wp2_with fail
  refine hK.out _ _ (Jg.out) (fun hHeld2 => ?_)
  clear hK K
  try simp only [Act.put, y1, y2, y3, y4, y5, y6, y7]
  refine wpAnyH_ready (rs := [6]) (by kernel_rfl) (by simp) ?_
  refine AllReadyH.cons rfl (fun K hK => ?_) AllReadyH.nil
  clear hHeld2
  go_simp
  refine (CLo.out U3 yy1 NQ.out NP.out Nyy1.out).mono ?_
  rintro e U4 ⟨⟨y9, rfl, hv⟩, hb⟩
  have Ny9 : Hid (NumV U4 65536 (r) y9) := hv
  clear hv
  replace B := aB B hb
  replace Jg := aJ Jg hb
  replace NQ := aN NQ hb
  replace NP := aN NP hb
  replace NA := aN NA hb
  replace NB' := aN NB' hb
  replace Nyy1 := aN Nyy1 hb
  clear hb
  go_wp2_with fail
  refine hK.out _ _ (Jg.out) (fun hHeld3 => ?_)
  clear hK K
  try simp only [Act.put, y1, y2, y3, y4, y5, y6, y7]
  refine tk (i := 7) (v := y9) rfl (by kernel_rfl) (fun _ _ _ h => h) rfl ?_ hHeld3 ?_
  · intro W hS; go_simp
  simp only [Act.put, y1, y2, y3, y4, y5, y6, y7]
  refine wpAnyH_done (by kernel_rfl) ?_ _
  clear hHeld3
  go_wp2_with fail
  go_ret
  exact ⟨⟨_, rfl, Ny9.out⟩, B.out⟩
set_option maxRecDepth 100000 in
set_option maxHeartbeats 2000000 in
theorem under_words {w : World} {q p S : Nat} {qa pa : Option Addr} {ql qc pl pc : Nat} (NQ : Hid (NumV w 65536 q (.slice qa ql qc))) (NP : Hid (NumV w 65536 p (.slice pa pl pc))) {a r0 r : Nat} {va : Value} (NA : Hid (NumV w 65536 a va))
    (C0 : Hid (∀ W, Calls Tryz.prog 24 #[.int .i64 1] W fun e w' => (∃ v, e = .returned v ∧ NumV w' 65536 1 v) ∧ Below W.heap.size W w'))
    (C1 : Hid (∀ W v v', NumV W 65536 q v → NumV W 65536 1 v' → Calls Tryz.prog 72 #[v, v'] W fun e w' => (∃ v, e = .returned v ∧ NumV w' 65536 r0 v) ∧ Below W.heap.size W w'))
    (C2 : Hid (∀ W v v', NumV W 65536 q (.slice qa ql qc) → NumV W 65536 p (.slice pa pl pc) → NumV W 65536 a v → NumV W 65536 r0 v' → Calls Tryz.prog 44 #[.agg #[.int .i64 (S : Int), .slice qa ql qc, .slice pa pl pc], v, v'] W fun e w' => (∃ v, e = .returned v ∧ NumV w' 65536 r v) ∧ Below W.heap.size W w')) :
    Calls Tryz.prog 50 #[.agg #[.int .i64 (S : Int), .slice qa ql qc, .slice pa pl pc], va] w fun e w' => (∃ v, e = .returned v ∧ NumV w' 65536 r v) ∧ Below w.heap.size w w' := by
  go_enter Tryz.func50, Tryz.ntmps50
  go_wp2_with fail
  obtain ⟨U1, hU1⟩ : ∃ X, X = (w.alloc (.cells #[(.int .i64 (S : Int)), (.slice qa ql qc), (.slice pa pl pc)] 42)) := ⟨_, rfl⟩
  have Jg : Hid (IHolds U1 (w.heap.size) 42 [(.int .i64 (S : Int)), (.slice qa ql qc), (.slice pa pl pc)]) := by
    have q := IHolds.new w 42 [(.int .i64 (S : Int)), (.slice qa ql qc), (.slice pa pl pc)]
    show IHolds _ _ _ _
    rw [hU1]
    exact q
  have B : Hid (Below w.heap.size w U1) := by
    show Below _ _ _
    rw [hU1]
    exact ((Below.refl _ w).alloc (Nat.le_refl _) _)
  rw [← hU1]
  have hb : Below w.heap.size w U1 := B.out
  replace NQ := aN NQ hb
  replace NP := aN NP hb
  replace NA := aN NA hb
  clear hb
  clear hU1
  have hb := dB U1
  replace B := aB B hb
  replace Jg := aJ Jg hb
  replace NQ := aN NQ hb
  replace NP := aN NP hb
  replace NA := aN NA hb
  clear hb
  refine wp_region_held_drew (S := fun W => (IHolds W (w.heap.size) 42 [(.int .i64 (S : Int)), (.slice qa ql qc), (.slice pa pl pc)])) (by kernel_rfl) Jg.out (fun hHeld1 => ?_)
  generalize U1.drew = U2 at *
  refine tk (i := 0) (v := .agg #[(.int .i64 (S : Int)), (.slice qa ql qc), (.slice pa pl pc)]) rfl (by kernel_rfl) (fun _ _ _ h => h) rfl ?_ hHeld1 ?_
  · intro W hS; have zg_0 : W.cell? ⟨w.heap.size, 0, none⟩ = some ((.int .i64 (S : Int))) := IHolds.cell (l := [(.int .i64 (S : Int)), (.slice qa ql qc), (.slice pa pl pc)]) (t := 42) (b := w.heap.size) (w := W) (hS) 0 (by simp); have zg_1 : W.cell? ⟨w.heap.size, 1, none⟩ = some ((.slice qa ql qc)) := IHolds.cell (l := [(.int .i64 (S : Int)), (.slice qa ql qc), (.slice pa pl pc)]) (t := 42) (b := w.heap.size) (w := W) (hS) 1 (by simp); have zg_2 : W.cell? ⟨w.heap.size, 2, none⟩ = some ((.slice pa pl pc)) := IHolds.cell (l := [(.int .i64 (S : Int)), (.slice qa ql qc), (.slice pa pl pc)]) (t := 42) (b := w.heap.size) (w := W) (hS) 2 (by simp); go_simp
  simp only [Act.put, y1, y2, y3, y4, y5, y6, y7]
  refine tk (i := 1) (v := va) rfl (by kernel_rfl) (fun _ _ _ h => h) rfl ?_ hHeld1 ?_
  · intro W hS; go_simp
  simp only [Act.put, y1, y2, y3, y4, y5, y6, y7]
  refine tk (i := 2) (v := .pointer (some ⟨w.heap.size, 1, none⟩)) rfl (by kernel_rfl) (fun _ _ _ h => h) rfl ?_ hHeld1 ?_
  · intro W hS; go_simp
  simp only [Act.put, y1, y2, y3, y4, y5, y6, y7]
  refine tk (i := 3) (v := (.slice qa ql qc)) rfl (by kernel_rfl) (fun _ _ _ h => h) rfl ?_ hHeld1 ?_
  · intro W hS; have zg_0 : W.cell? ⟨w.heap.size, 0, none⟩ = some ((.int .i64 (S : Int))) := IHolds.cell (l := [(.int .i64 (S : Int)), (.slice qa ql qc), (.slice pa pl pc)]) (t := 42) (b := w.heap.size) (w := W) (hS) 0 (by simp); have zg_1 : W.cell? ⟨w.heap.size, 1, none⟩ = some ((.slice qa ql qc)) := IHolds.cell (l := [(.int .i64 (S : Int)), (.slice qa ql qc), (.slice pa pl pc)]) (t := 42) (b := w.heap.size) (w := W) (hS) 1 (by simp); have zg_2 : W.cell? ⟨w.heap.size, 2, none⟩ = some ((.slice pa pl pc)) := IHolds.cell (l := [(.int .i64 (S : Int)), (.slice qa ql qc), (.slice pa pl pc)]) (t := 42) (b := w.heap.size) (w := W) (hS) 2 (by simp); go_simp
  simp only [Act.put, y1, y2, y3, y4, y5, y6, y7]
  refine wpAnyH_ready (rs := [4]) (by kernel_rfl) (by simp) ?_
  refine AllReadyH.cons rfl (fun K hK => ?_) AllReadyH.nil
  clear hHeld1
  go_simp
  refine (C0.out U2).mono ?_
  rintro e U3 ⟨⟨y0, rfl, hv⟩, hb⟩
  have Ny0 : Hid (NumV U3 65536 (1) y0) := hv
  clear hv
  replace B := aB B hb
  replace Jg := aJ Jg hb
  replace NQ := aN NQ hb
  replace NP := aN NP hb
  replace NA := aN NA hb
  clear hb
  go_wp2_with fail
  refine hK.out _ _ (Jg.out) (fun hHeld2 => ?_)
  clear hK K
  try simp only [Act.put, y1, y2, y3, y4, y5, y6, y7]
  refine wpAnyH_ready (rs := [5]) (by kernel_rfl) (by simp) ?_
  refine AllReadyH.cons rfl (fun K hK => ?_) AllReadyH.nil
  clear hHeld2
  go_simp
  refine (C1.out U3 (.slice qa ql qc) y0 NQ.out Ny0.out).mono ?_
  rintro e U4 ⟨⟨yy1, rfl, hv⟩, hb⟩
  have Nyy1 : Hid (NumV U4 65536 (r0) yy1) := hv
  clear hv
  replace B := aB B hb
  replace Jg := aJ Jg hb
  replace NQ := aN NQ hb
  replace NP := aN NP hb
  replace NA := aN NA hb
  replace Ny0 := aN Ny0 hb
  clear hb
  go_wp2_with fail
  refine hK.out _ _ (Jg.out) (fun hHeld3 => ?_)
  clear hK K
  try simp only [Act.put, y1, y2, y3, y4, y5, y6, y7]
  refine wpAnyH_ready (rs := [6]) (by kernel_rfl) (by simp) ?_
  refine AllReadyH.cons rfl (fun K hK => ?_) AllReadyH.nil
  clear hHeld3
  go_simp
  refine (C2.out U4 va yy1 NQ.out NP.out NA.out Nyy1.out).mono ?_
  rintro e U5 ⟨⟨y9, rfl, hv⟩, hb⟩
  have Ny9 : Hid (NumV U5 65536 (r) y9) := hv
  clear hv
  replace B := aB B hb
  replace Jg := aJ Jg hb
  replace NQ := aN NQ hb
  replace NP := aN NP hb
  replace NA := aN NA hb
  replace Ny0 := aN Ny0 hb
  replace Nyy1 := aN Nyy1 hb
  clear hb
  go_wp2_with fail
  refine hK.out _ _ (Jg.out) (fun hHeld4 => ?_)
  clear hK K
  try simp only [Act.put, y1, y2, y3, y4, y5, y6, y7]
  refine tk (i := 7) (v := y9) rfl (by kernel_rfl) (fun _ _ _ h => h) rfl ?_ hHeld4 ?_
  · intro W hS; go_simp
  simp only [Act.put, y1, y2, y3, y4, y5, y6, y7]
  refine wpAnyH_done (by kernel_rfl) ?_ _
  clear hHeld4
  go_wp2_with fail
  go_ret
  exact ⟨⟨_, rfl, Ny9.out⟩, B.out⟩
end Go.Proofs.YtohpbclofcflaaaGreat
