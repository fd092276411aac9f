/- The document's IsElem, Product, Power. -/
import Derived.Test.YtfbceknafmkipaaGreatElemV
import Derived.Test.YtfbceknafmkipaaGreatSm3
set_option linter.unusedSimpArgs false
set_option linter.unusedVariables false
namespace Go.Proofs.YtfbceknafmkipaaGreat
open Go.RowKit Go.Deep Go.PlainAid

set_option maxRecDepth 100000 in
set_option maxHeartbeats 2000000 in
theorem isElem_no {w : World} {q : Nat} {qa : Option Addr} {ql qc : Nat} (NQ : Hid (NumV w 65536 q (.slice qa ql qc))) {pa : Option Addr} {pl pc : Nat} {S : Nat} {s : ByteArray} (hne : ((s.size : Int) == (S : Int)) = false) :
    Calls Tryz.prog 37 #[.agg #[.int .i64 (S : Int), .slice qa ql qc, .slice pa pl pc], .string s] w fun e w' => e = .returned (.bool false) ∧ Below w.heap.size w w' := by
  have hne2 : ¬ (s.size : Int) = (S : Int) := by simpa using hne
  go_enter Tryz.func37, Tryz.ntmps37
  go_wp2_with fail
  obtain ⟨U1, hU1⟩ : ∃ X, X = (w.alloc (.cells #[(.int .i64 (S : Int)), (.slice qa ql qc), (.slice pa pl pc)] 48)) := ⟨_, rfl⟩
  have Jg : Hid (IHolds U1 (w.heap.size) 48 [(.int .i64 (S : Int)), (.slice qa ql qc), (.slice pa pl pc)]) := by
    have q := IHolds.new w 48 [(.int .i64 (S : Int)), (.slice qa ql qc), (.slice pa pl pc)]
    show IHolds _ _ _ _
    rw [hU1]
    exact q
  have B : Hid (Below w.heap.size w U1) := by
    show Below _ _ _
    rw [hU1]
    exact ((Below.refl _ w).alloc (Nat.le_refl _) _)
  rw [← hU1]
  have hb : Below w.heap.size w U1 := B.out
  replace NQ := aN NQ hb
  clear hb
  clear hU1
  have hb := dB U1
  replace B := aB B hb
  replace Jg := aJ Jg hb
  replace NQ := aN NQ hb
  clear hb
  refine wp_region_held_drew (S := fun W => (IHolds W (w.heap.size) 48 [(.int .i64 (S : Int)), (.slice qa ql qc), (.slice pa pl pc)])) (by kernel_rfl) Jg.out (fun hHeld1 => ?_)
  generalize U1.drew = U2 at *
  refine tk (i := 0) (v := (.string s)) rfl (by kernel_rfl) (fun _ _ _ h => h) rfl ?_ hHeld1 ?_
  · intro W hS; go_simp
  simp only [Act.put, y1, y2, y3, y4, y5, y6, y7]
  refine tk (i := 2) (v := .pointer (some ⟨w.heap.size, 0, none⟩)) rfl (by kernel_rfl) (fun _ _ _ h => h) rfl ?_ hHeld1 ?_
  · intro W hS; go_simp
  simp only [Act.put, y1, y2, y3, y4, y5, y6, y7]
  refine tk (i := 1) (v := (.int .i64 (s.size : Int))) rfl (by kernel_rfl) (fun _ _ _ h => h) rfl ?_ hHeld1 ?_
  · intro W hS; go_simp
  simp only [Act.put, y1, y2, y3, y4, y5, y6, y7]
  refine tk (i := 3) (v := (.int .i64 (S : Int))) rfl (by kernel_rfl) (fun _ _ _ h => h) rfl ?_ hHeld1 ?_
  · intro W hS; have zg_0 : W.cell? ⟨w.heap.size, 0, none⟩ = some ((.int .i64 (S : Int))) := IHolds.cell (l := [(.int .i64 (S : Int)), (.slice qa ql qc), (.slice pa pl pc)]) (t := 48) (b := w.heap.size) (w := W) (hS) 0 (by simp); have zg_1 : W.cell? ⟨w.heap.size, 1, none⟩ = some ((.slice qa ql qc)) := IHolds.cell (l := [(.int .i64 (S : Int)), (.slice qa ql qc), (.slice pa pl pc)]) (t := 48) (b := w.heap.size) (w := W) (hS) 1 (by simp); have zg_2 : W.cell? ⟨w.heap.size, 2, none⟩ = some ((.slice pa pl pc)) := IHolds.cell (l := [(.int .i64 (S : Int)), (.slice qa ql qc), (.slice pa pl pc)]) (t := 48) (b := w.heap.size) (w := W) (hS) 2 (by simp); go_simp
  simp only [Act.put, y1, y2, y3, y4, y5, y6, y7]
  refine tk (i := 4) (v := (.bool false)) rfl (by kernel_rfl) (fun _ _ _ h => h) rfl ?_ hHeld1 ?_
  · intro W hS; go_simp
  simp only [Act.put, y1, y2, y3, y4, y5, y6, y7]
  refine tk (i := 5) (v := (.bool false)) rfl (by kernel_rfl) (fun _ _ _ h => h) rfl ?_ hHeld1 ?_
  · intro W hS; go_simp
  simp only [Act.put, y1, y2, y3, y4, y5, y6, y7]
  refine tkU (i := 6) rfl (by kernel_rfl) (fun _ _ _ h => h) rfl hHeld1 ?_
  simp only [Act.put, y1, y2, y3, y4, y5, y6, y7]
  refine tkU (i := 7) rfl (by kernel_rfl) (fun _ _ _ h => h) rfl hHeld1 ?_
  simp only [Act.put, y1, y2, y3, y4, y5, y6, y7]
  refine tkU (i := 8) rfl (by kernel_rfl) (fun _ _ _ h => h) rfl hHeld1 ?_
  simp only [Act.put, y1, y2, y3, y4, y5, y6, y7]
  refine tkU (i := 9) rfl (by kernel_rfl) (fun _ _ _ h => h) rfl hHeld1 ?_
  simp only [Act.put, y1, y2, y3, y4, y5, y6, y7]
  refine tk (i := 10) (v := (.bool false)) rfl (by kernel_rfl) (fun _ _ _ h => h) rfl ?_ hHeld1 ?_
  · intro W hS; go_simp
  simp only [Act.put, y1, y2, y3, y4, y5, y6, y7]
  refine tk (i := 11) (v := (.bool false)) rfl (by kernel_rfl) (fun _ _ _ h => h) rfl ?_ hHeld1 ?_
  · intro W hS; go_simp
  simp only [Act.put, y1, y2, y3, y4, y5, y6, y7]
  refine tkU (i := 12) rfl (by kernel_rfl) (fun _ _ _ h => h) rfl hHeld1 ?_
  simp only [Act.put, y1, y2, y3, y4, y5, y6, y7]
  refine tkU (i := 14) rfl (by kernel_rfl) (fun _ _ _ h => h) rfl hHeld1 ?_
  simp only [Act.put, y1, y2, y3, y4, y5, y6, y7]
  refine tkU (i := 13) rfl (by kernel_rfl) (fun _ _ _ h => h) rfl hHeld1 ?_
  simp only [Act.put, y1, y2, y3, y4, y5, y6, y7]
  refine tkU (i := 15) rfl (by kernel_rfl) (fun _ _ _ h => h) rfl hHeld1 ?_
  simp only [Act.put, y1, y2, y3, y4, y5, y6, y7]
  refine tkU (i := 16) rfl (by kernel_rfl) (fun _ _ _ h => h) rfl hHeld1 ?_
  simp only [Act.put, y1, y2, y3, y4, y5, y6, y7]
  refine tkU (i := 17) rfl (by kernel_rfl) (fun _ _ _ h => h) rfl hHeld1 ?_
  simp only [Act.put, y1, y2, y3, y4, y5, y6, y7]
  refine tk (i := 18) (v := (.bool false)) rfl (by kernel_rfl) (fun _ _ _ h => h) rfl ?_ hHeld1 ?_
  · intro W hS; go_simp
  simp only [Act.put, y1, y2, y3, y4, y5, y6, y7]
  refine tk (i := 19) (v := (.bool false)) rfl (by kernel_rfl) (fun _ _ _ h => h) rfl ?_ hHeld1 ?_
  · intro W hS; go_simp
  simp only [Act.put, y1, y2, y3, y4, y5, y6, y7]
  refine wpAnyH_done (by kernel_rfl) ?_ _
  clear hHeld1
  go_wp2_with fail
  go_ret
  exact ⟨rfl, B.out⟩
set_option maxRecDepth 100000 in
set_option maxHeartbeats 2000000 in
theorem isElem_zero {w : World} {q : Nat} {qa : Option Addr} {ql qc : Nat} (NQ : Hid (NumV w 65536 q (.slice qa ql qc))) {pa : Option Addr} {pl pc : Nat} {s : ByteArray} {N : Nat} (CR : Hid (∀ W, Calls Tryz.prog 40 #[.string s] W fun e w' => (∃ v, e = .returned v ∧ NumV w' 65536 N v) ∧ Below W.heap.size W w')) (hL : (dg 65536 N).length = 0) :
    Calls Tryz.prog 37 #[.agg #[.int .i64 (s.size : Int), .slice qa ql qc, .slice pa pl pc], .string s] w fun e w' => e = .returned (.bool false) ∧ Below w.heap.size w w' := by
  go_enter Tryz.func37, Tryz.ntmps37
  go_wp2_with fail
  obtain ⟨U1, hU1⟩ : ∃ X, X = (w.alloc (.cells #[(.int .i64 (s.size : Int)), (.slice qa ql qc), (.slice pa pl pc)] 48)) := ⟨_, rfl⟩
  have Jg : Hid (IHolds U1 (w.heap.size) 48 [(.int .i64 (s.size : Int)), (.slice qa ql qc), (.slice pa pl pc)]) := by
    have q := IHolds.new w 48 [(.int .i64 (s.size : Int)), (.slice qa ql qc), (.slice pa pl pc)]
    show IHolds _ _ _ _
    rw [hU1]
    exact q
  have B : Hid (Below w.heap.size w U1) := by
    show Below _ _ _
    rw [hU1]
    exact ((Below.refl _ w).alloc (Nat.le_refl _) _)
  rw [← hU1]
  have hb : Below w.heap.size w U1 := B.out
  replace NQ := aN NQ hb
  clear hb
  clear hU1
  have hb := dB U1
  replace B := aB B hb
  replace Jg := aJ Jg hb
  replace NQ := aN NQ hb
  clear hb
  refine wp_region_held_drew (S := fun W => (IHolds W (w.heap.size) 48 [(.int .i64 (s.size : Int)), (.slice qa ql qc), (.slice pa pl pc)])) (by kernel_rfl) Jg.out (fun hHeld1 => ?_)
  generalize U1.drew = U2 at *
  refine tk (i := 0) (v := (.string s)) rfl (by kernel_rfl) (fun _ _ _ h => h) rfl ?_ hHeld1 ?_
  · intro W hS; go_simp
  simp only [Act.put, y1, y2, y3, y4, y5, y6, y7]
  refine tk (i := 2) (v := .pointer (some ⟨w.heap.size, 0, none⟩)) rfl (by kernel_rfl) (fun _ _ _ h => h) rfl ?_ hHeld1 ?_
  · intro W hS; go_simp
  simp only [Act.put, y1, y2, y3, y4, y5, y6, y7]
  refine tk (i := 1) (v := (.int .i64 (s.size : Int))) rfl (by kernel_rfl) (fun _ _ _ h => h) rfl ?_ hHeld1 ?_
  · intro W hS; go_simp
  simp only [Act.put, y1, y2, y3, y4, y5, y6, y7]
  refine tk (i := 3) (v := (.int .i64 (s.size : Int))) rfl (by kernel_rfl) (fun _ _ _ h => h) rfl ?_ hHeld1 ?_
  · intro W hS; have zg_0 : W.cell? ⟨w.heap.size, 0, none⟩ = some ((.int .i64 (s.size : Int))) := IHolds.cell (l := [(.int .i64 (s.size : Int)), (.slice qa ql qc), (.slice pa pl pc)]) (t := 48) (b := w.heap.size) (w := W) (hS) 0 (by simp); have zg_1 : W.cell? ⟨w.heap.size, 1, none⟩ = some ((.slice qa ql qc)) := IHolds.cell (l := [(.int .i64 (s.size : Int)), (.slice qa ql qc), (.slice pa pl pc)]) (t := 48) (b := w.heap.size) (w := W) (hS) 1 (by simp); have zg_2 : W.cell? ⟨w.heap.size, 2, none⟩ = some ((.slice pa pl pc)) := IHolds.cell (l := [(.int .i64 (s.size : Int)), (.slice qa ql qc), (.slice pa pl pc)]) (t := 48) (b := w.heap.size) (w := W) (hS) 2 (by simp); go_simp
  simp only [Act.put, y1, y2, y3, y4, y5, y6, y7]
  refine tk (i := 4) (v := (.bool true)) rfl (by kernel_rfl) (fun _ _ _ h => h) rfl ?_ hHeld1 ?_
  · intro W hS; go_simp
  simp only [Act.put, y1, y2, y3, y4, y5, y6, y7]
  refine tk (i := 5) (v := (.bool true)) rfl (by kernel_rfl) (fun _ _ _ h => h) rfl ?_ hHeld1 ?_
  · intro W hS; go_simp
  simp only [Act.put, y1, y2, y3, y4, y5, y6, y7]
  refine tk (i := 6) (v := (.string s)) rfl (by kernel_rfl) (fun _ _ _ h => h) rfl ?_ hHeld1 ?_
  · intro W hS; go_simp
  simp only [Act.put, y1, y2, y3, y4, y5, y6, y7]
  refine wpAnyH_ready (rs := [7]) (by kernel_rfl) (by simp) ?_
  refine AllReadyH.cons rfl (fun K hK => ?_) AllReadyH.nil
  clear hHeld1
  go_simp
  refine (CR.out U2).mono ?_
  rintro e U3 ⟨⟨yr, rfl, hv⟩, hb⟩
  have Nyr : Hid (NumV U3 65536 (N) yr) := hv
  clear hv
  replace B := aB B hb
  replace Jg := aJ Jg hb
  replace NQ := aN NQ hb
  clear hb
  go_wp2_with fail
  refine hK.out _ _ (Jg.out) (fun hHeld2 => ?_)
  clear hK K
  try simp only [Act.put, y1, y2, y3, y4, y5, y6, y7]
  obtain ⟨yr_a, yr_l, yr_c, rfl⟩ := sN Nyr
  have hyl := NumV.len Nyr
  have hy0 : yr_l = 0 := by rw [hyl]; exact hL
  clear hyl
  refine tk (i := 8) (v := (.int .i64 (yr_l : Int))) rfl (by kernel_rfl) (fun _ _ _ h => h) rfl ?_ hHeld2 ?_
  · intro W hS; go_simp
  simp only [Act.put, y1, y2, y3, y4, y5, y6, y7]
  refine tk (i := 9) (v := (.bool false)) rfl (by kernel_rfl) (fun _ _ _ h => h) rfl ?_ hHeld2 ?_
  · intro W hS; go_simp
  simp only [Act.put, y1, y2, y3, y4, y5, y6, y7]
  refine tk (i := 10) (v := (.bool false)) rfl (by kernel_rfl) (fun _ _ _ h => h) rfl ?_ hHeld2 ?_
  · intro W hS; go_simp
  simp only [Act.put, y1, y2, y3, y4, y5, y6, y7]
  refine tk (i := 11) (v := (.bool false)) rfl (by kernel_rfl) (fun _ _ _ h => h) rfl ?_ hHeld2 ?_
  · intro W hS; go_simp
  simp only [Act.put, y1, y2, y3, y4, y5, y6, y7]
  refine tkU (i := 12) rfl (by kernel_rfl) (fun _ _ _ h => h) rfl hHeld2 ?_
  simp only [Act.put, y1, y2, y3, y4, y5, y6, y7]
  refine tkU (i := 14) rfl (by kernel_rfl) (fun _ _ _ h => h) rfl hHeld2 ?_
  simp only [Act.put, y1, y2, y3, y4, y5, y6, y7]
  refine tkU (i := 13) rfl (by kernel_rfl) (fun _ _ _ h => h) rfl hHeld2 ?_
  simp only [Act.put, y1, y2, y3, y4, y5, y6, y7]
  refine tkU (i := 15) rfl (by kernel_rfl) (fun _ _ _ h => h) rfl hHeld2 ?_
  simp only [Act.put, y1, y2, y3, y4, y5, y6, y7]
  refine tkU (i := 16) rfl (by kernel_rfl) (fun _ _ _ h => h) rfl hHeld2 ?_
  simp only [Act.put, y1, y2, y3, y4, y5, y6, y7]
  refine tkU (i := 17) rfl (by kernel_rfl) (fun _ _ _ h => h) rfl hHeld2 ?_
  simp only [Act.put, y1, y2, y3, y4, y5, y6, y7]
  refine tk (i := 18) (v := (.bool false)) rfl (by kernel_rfl) (fun _ _ _ h => h) rfl ?_ hHeld2 ?_
  · intro W hS; go_simp
  simp only [Act.put, y1, y2, y3, y4, y5, y6, y7]
  refine tk (i := 19) (v := (.bool false)) rfl (by kernel_rfl) (fun _ _ _ h => h) rfl ?_ hHeld2 ?_
  · intro W hS; go_simp
  simp only [Act.put, y1, y2, y3, y4, y5, y6, y7]
  refine wpAnyH_done (by kernel_rfl) ?_ _
  clear hHeld2
  go_wp2_with fail
  go_ret
  exact ⟨rfl, B.out⟩
set_option maxRecDepth 100000 in
set_option maxHeartbeats 2000000 in
theorem isElem_is {w : World} {q : Nat} {qa : Option Addr} {ql qc : Nat} (NQ : Hid (NumV w 65536 q (.slice qa ql qc))) {pa : Option Addr} {pl pc : Nat} {s : ByteArray} {N : Nat} {c : Int} {t : Bool} (CR : Hid (∀ W, Calls Tryz.prog 40 #[.string s] W fun e w' => (∃ v, e = .returned v ∧ NumV w' 65536 N v) ∧ Below W.heap.size W w')) (CC : Hid (∀ W v v', NumV W 65536 N v → NumV W 65536 q v' → Calls Tryz.prog 54 #[v, v'] W fun e w' => e = .returned (.int .i64 c) ∧ Below W.heap.size W w')) (hL : 0 < (dg 65536 N).length) (hc : decide (c ≤ 0) = t) :
    Calls Tryz.prog 37 #[.agg #[.int .i64 (s.size : Int), .slice qa ql qc, .slice pa pl pc], .string s] w fun e w' => e = .returned (.bool t) ∧ Below w.heap.size w w' := by
  go_enter Tryz.func37, Tryz.ntmps37
  go_wp2_with fail
  obtain ⟨U1, hU1⟩ : ∃ X, X = (w.alloc (.cells #[(.int .i64 (s.size : Int)), (.slice qa ql qc), (.slice pa pl pc)] 48)) := ⟨_, rfl⟩
  have Jg : Hid (IHolds U1 (w.heap.size) 48 [(.int .i64 (s.size : Int)), (.slice qa ql qc), (.slice pa pl pc)]) := by
    have q := IHolds.new w 48 [(.int .i64 (s.size : Int)), (.slice qa ql qc), (.slice pa pl pc)]
    show IHolds _ _ _ _
    rw [hU1]
    exact q
  have B : Hid (Below w.heap.size w U1) := by
    show Below _ _ _
    rw [hU1]
    exact ((Below.refl _ w).alloc (Nat.le_refl _) _)
  rw [← hU1]
  have hb : Below w.heap.size w U1 := B.out
  replace NQ := aN NQ hb
  clear hb
  clear hU1
  have hb := dB U1
  replace B := aB B hb
  replace Jg := aJ Jg hb
  replace NQ := aN NQ hb
  clear hb
  refine wp_region_held_drew (S := fun W => (IHolds W (w.heap.size) 48 [(.int .i64 (s.size : Int)), (.slice qa ql qc), (.slice pa pl pc)])) (by kernel_rfl) Jg.out (fun hHeld1 => ?_)
  generalize U1.drew = U2 at *
  refine tk (i := 0) (v := (.string s)) rfl (by kernel_rfl) (fun _ _ _ h => h) rfl ?_ hHeld1 ?_
  · intro W hS; go_simp
  simp only [Act.put, y1, y2, y3, y4, y5, y6, y7]
  refine tk (i := 2) (v := .pointer (some ⟨w.heap.size, 0, none⟩)) rfl (by kernel_rfl) (fun _ _ _ h => h) rfl ?_ hHeld1 ?_
  · intro W hS; go_simp
  simp only [Act.put, y1, y2, y3, y4, y5, y6, y7]
  refine tk (i := 1) (v := (.int .i64 (s.size : Int))) rfl (by kernel_rfl) (fun _ _ _ h => h) rfl ?_ hHeld1 ?_
  · intro W hS; go_simp
  simp only [Act.put, y1, y2, y3, y4, y5, y6, y7]
  refine tk (i := 3) (v := (.int .i64 (s.size : Int))) rfl (by kernel_rfl) (fun _ _ _ h => h) rfl ?_ hHeld1 ?_
  · intro W hS; have zg_0 : W.cell? ⟨w.heap.size, 0, none⟩ = some ((.int .i64 (s.size : Int))) := IHolds.cell (l := [(.int .i64 (s.size : Int)), (.slice qa ql qc), (.slice pa pl pc)]) (t := 48) (b := w.heap.size) (w := W) (hS) 0 (by simp); have zg_1 : W.cell? ⟨w.heap.size, 1, none⟩ = some ((.slice qa ql qc)) := IHolds.cell (l := [(.int .i64 (s.size : Int)), (.slice qa ql qc), (.slice pa pl pc)]) (t := 48) (b := w.heap.size) (w := W) (hS) 1 (by simp); have zg_2 : W.cell? ⟨w.heap.size, 2, none⟩ = some ((.slice pa pl pc)) := IHolds.cell (l := [(.int .i64 (s.size : Int)), (.slice qa ql qc), (.slice pa pl pc)]) (t := 48) (b := w.heap.size) (w := W) (hS) 2 (by simp); go_simp
  simp only [Act.put, y1, y2, y3, y4, y5, y6, y7]
  refine tk (i := 4) (v := (.bool true)) rfl (by kernel_rfl) (fun _ _ _ h => h) rfl ?_ hHeld1 ?_
  · intro W hS; go_simp
  simp only [Act.put, y1, y2, y3, y4, y5, y6, y7]
  refine tk (i := 5) (v := (.bool true)) rfl (by kernel_rfl) (fun _ _ _ h => h) rfl ?_ hHeld1 ?_
  · intro W hS; go_simp
  simp only [Act.put, y1, y2, y3, y4, y5, y6, y7]
  refine tk (i := 6) (v := (.string s)) rfl (by kernel_rfl) (fun _ _ _ h => h) rfl ?_ hHeld1 ?_
  · intro W hS; go_simp
  simp only [Act.put, y1, y2, y3, y4, y5, y6, y7]
  refine wpAnyH_ready (rs := [7]) (by kernel_rfl) (by simp) ?_
  refine AllReadyH.cons rfl (fun K hK => ?_) AllReadyH.nil
  clear hHeld1
  go_simp
  refine (CR.out U2).mono ?_
  rintro e U3 ⟨⟨yr, rfl, hv⟩, hb⟩
  have Nyr : Hid (NumV U3 65536 (N) yr) := hv
  clear hv
  replace B := aB B hb
  replace Jg := aJ Jg hb
  replace NQ := aN NQ hb
  clear hb
  go_wp2_with fail
  refine hK.out _ _ (Jg.out) (fun hHeld2 => ?_)
  clear hK K
  try simp only [Act.put, y1, y2, y3, y4, y5, y6, y7]
  obtain ⟨yr_a, yr_l, yr_c, rfl⟩ := sN Nyr
  have hyl := NumV.len Nyr
  have hy0 : 0 < yr_l := by rw [hyl]; exact hL
  have hy1 : (0 : Int) < (yr_l : Int) := by omega
  clear hyl
  refine tk (i := 8) (v := (.int .i64 (yr_l : Int))) rfl (by kernel_rfl) (fun _ _ _ h => h) rfl ?_ hHeld2 ?_
  · intro W hS; go_simp
  simp only [Act.put, y1, y2, y3, y4, y5, y6, y7]
  refine tk (i := 9) (v := (.bool true)) rfl (by kernel_rfl) (fun _ _ _ h => h) rfl ?_ hHeld2 ?_
  · intro W hS; go_simp
  simp only [Act.put, y1, y2, y3, y4, y5, y6, y7]
  refine tk (i := 10) (v := (.bool true)) rfl (by kernel_rfl) (fun _ _ _ h => h) rfl ?_ hHeld2 ?_
  · intro W hS; go_simp
  simp only [Act.put, y1, y2, y3, y4, y5, y6, y7]
  refine tk (i := 11) (v := (.bool true)) rfl (by kernel_rfl) (fun _ _ _ h => h) rfl ?_ hHeld2 ?_
  · intro W hS; go_simp
  simp only [Act.put, y1, y2, y3, y4, y5, y6, y7]
  refine tk (i := 12) (v := (.string s)) rfl (by kernel_rfl) (fun _ _ _ h => h) rfl ?_ hHeld2 ?_
  · intro W hS; go_simp
  simp only [Act.put, y1, y2, y3, y4, y5, y6, y7]
  refine tk (i := 14) (v := .pointer (some ⟨w.heap.size, 1, none⟩)) rfl (by kernel_rfl) (fun _ _ _ h => h) rfl ?_ hHeld2 ?_
  · intro W hS; go_simp
  simp only [Act.put, y1, y2, y3, y4, y5, y6, y7]
  refine tk (i := 15) (v := (.slice qa ql qc)) rfl (by kernel_rfl) (fun _ _ _ h => h) rfl ?_ hHeld2 ?_
  · intro W hS; have zg_0 : W.cell? ⟨w.heap.size, 0, none⟩ = some ((.int .i64 (s.size : Int))) := IHolds.cell (l := [(.int .i64 (s.size : Int)), (.slice qa ql qc), (.slice pa pl pc)]) (t := 48) (b := w.heap.size) (w := W) (hS) 0 (by simp); have zg_1 : W.cell? ⟨w.heap.size, 1, none⟩ = some ((.slice qa ql qc)) := IHolds.cell (l := [(.int .i64 (s.size : Int)), (.slice qa ql qc), (.slice pa pl pc)]) (t := 48) (b := w.heap.size) (w := W) (hS) 1 (by simp); have zg_2 : W.cell? ⟨w.heap.size, 2, none⟩ = some ((.slice pa pl pc)) := IHolds.cell (l := [(.int .i64 (s.size : Int)), (.slice qa ql qc), (.slice pa pl pc)]) (t := 48) (b := w.heap.size) (w := W) (hS) 2 (by simp); go_simp
  simp only [Act.put, y1, y2, y3, y4, y5, y6, y7]
  refine wpAnyH_ready (rs := [13]) (by kernel_rfl) (by simp) ?_
  refine AllReadyH.cons rfl (fun K hK => ?_) AllReadyH.nil
  clear hHeld2
  go_simp
  refine (CR.out U3).mono ?_
  rintro e U4 ⟨⟨ys, rfl, hv⟩, hb⟩
  have Nys : Hid (NumV U4 65536 (N) ys) := hv
  clear hv
  replace B := aB B hb
  replace Jg := aJ Jg hb
  replace NQ := aN NQ hb
  replace Nyr := aN Nyr hb
  clear hb
  go_wp2_with fail
  refine hK.out _ _ (Jg.out) (fun hHeld3 => ?_)
  clear hK K
  try simp only [Act.put, y1, y2, y3, y4, y5, y6, y7]
  refine wpAnyH_ready (rs := [16]) (by kernel_rfl) (by simp) ?_
  refine AllReadyH.cons rfl (fun K hK => ?_) AllReadyH.nil
  clear hHeld3
  go_simp
  refine (CC.out U4 ys (.slice qa ql qc) Nys.out NQ.out).mono ?_
  rintro e U5 ⟨rfl, hb⟩
  replace B := aB B hb
  replace Jg := aJ Jg hb
  replace NQ := aN NQ hb
  replace Nyr := aN Nyr hb
  replace Nys := aN Nys hb
  clear hb
  go_wp2_with fail
  refine hK.out _ _ (Jg.out) (fun hHeld4 => ?_)
  clear hK K
  try simp only [Act.put, y1, y2, y3, y4, y5, y6, y7]
  refine tk (i := 17) (v := (.bool t)) rfl (by kernel_rfl) (fun _ _ _ h => h) rfl ?_ hHeld4 ?_
  · intro W hS; go_simp
  simp only [Act.put, y1, y2, y3, y4, y5, y6, y7]
  refine tk (i := 18) (v := (.bool t)) rfl (by kernel_rfl) (fun _ _ _ h => h) rfl ?_ hHeld4 ?_
  · intro W hS; go_simp
  simp only [Act.put, y1, y2, y3, y4, y5, y6, y7]
  refine tk (i := 19) (v := (.bool t)) rfl (by kernel_rfl) (fun _ _ _ h => h) rfl ?_ hHeld4 ?_
  · intro W hS; go_simp
  simp only [Act.put, y1, y2, y3, y4, y5, y6, y7]
  refine wpAnyH_done (by kernel_rfl) ?_ _
  clear hHeld4
  go_wp2_with fail
  go_ret
  exact ⟨rfl, B.out⟩
theorem isElemV {w : World} {q p S : Nat} {u1 u2 : Value} (h1 : NumV w 65536 q u1) (h2 : NumV w 65536 p u2) (s : ByteArray) (hS : S ≤ 32) (lq : (dg 65536 q).length ≤ 1000000) :
    Calls Tryz.prog 37 #[.agg #[.int .i64 (S : Int), u1, u2], .string s] w fun e w' => e = .returned (.bool (isEl S q s)) ∧ Below w.heap.size w w' := by
  have N1 : Hid (NumV w 65536 q u1) := h1
  have N2 : Hid (NumV w 65536 p u2) := h2
  obtain ⟨qa, ql, qc, rfl⟩ := sN N1
  obtain ⟨pa, pl, pc, rfl⟩ := sN N2
  by_cases h : s.size = S
  · have l9 : (dg 65536 (numS s)).length ≤ 1000000 := Nat.le_trans (dg_len_le b16 s.size _ (Nat.lt_of_lt_of_le (numS_lt s) (Nat.pow_le_pow_left (by omega) _))) (by omega)
    by_cases h0 : numS s = 0
    · have e : isEl S q s = false := by unfold isEl; exact decide_eq_false (fun q => q.2.1 h0)
      rw [e]
      subst h
      exact isElem_zero N1 (fun W => read_any W s (by omega)) (by rw [h0, dg_zero]; rfl)
    · subst h
      refine isElem_is N1 (fun W => read_any W s (by omega)) (fun W v v' g1 g2 => compareV g1 g2 l9 lq) (by have : (dg 65536 (numS s)).length ≠ 0 := (by rw [Ne, dg_length_zero b16]; exact h0); omega) ?_
      unfold isEl
      by_cases h2 : q < numS s
      · rw [cmp3_gt (by omega)]; simp; omega
      · rcases Nat.lt_or_eq_of_le (Nat.le_of_not_lt h2) with h3 | h3
        · rw [cmp3_lt (by omega)]; simp [h0]; omega
        · rw [cmp3_eq (by omega)]; simp [h0]; omega
  · have e : isEl S q s = false := by unfold isEl; exact decide_eq_false (fun q => h q.1)
    rw [e]
    exact isElem_no N1 (size_ne h)
set_option maxRecDepth 100000 in
set_option maxHeartbeats 2000000 in
theorem low_hi {w : World} {q p S : Nat} {qa pa : Option Addr} {ql qc pl pc : Nat} (NQ : Hid (NumV w 65536 q (.slice qa ql qc))) (NP : Hid (NumV w 65536 p (.slice pa pl pc))) {a r : Nat} {va : Value} (NA : Hid (NumV w 65536 a va)) {c : Int} (hc : (0 : Int) < c ↔ True)
    (C1 : Hid (∀ W v v', NumV W 65536 a v → NumV W 65536 q v' → Calls Tryz.prog 54 #[v, v'] W fun e w' => e = .returned (.int .i64 c) ∧ Below W.heap.size W w')) (C2 : Hid (∀ W v v', NumV W 65536 p v → NumV W 65536 a v' → Calls Tryz.prog 79 #[v, v'] W fun e w' => (∃ v, e = .returned v ∧ NumV w' 65536 r v) ∧ Below W.heap.size W w')) :
    Calls Tryz.prog 80 #[.agg #[.int .i64 (S : Int), .slice qa ql qc, .slice pa pl pc], va] w fun e w' => (∃ v, e = .returned v ∧ NumV w' 65536 r v) ∧ Below w.heap.size w w' := by
  have hc1 : (0 : Int) < c := by simpa using hc
  clear hc
  have Jg : Hid (IHolds (w.alloc (.cells #[(.int .i64 (S : Int)), (.slice qa ql qc), (.slice pa pl pc)] 48)) w.heap.size 48 [(.int .i64 (S : Int)), (.slice qa ql qc), (.slice pa pl pc)]) := IHolds.new w 48 _
  have B : Hid (Below w.heap.size w (w.alloc (.cells #[(.int .i64 (S : Int)), (.slice qa ql qc), (.slice pa pl pc)] 48))) := nB _ _
  replace NQ := aN NQ B.out
  replace NP := aN NP B.out
  replace NA := aN NA B.out
  have zg0 : (w.alloc (.cells #[(.int .i64 (S : Int)), (.slice qa ql qc), (.slice pa pl pc)] 48)).cell? ⟨w.heap.size, 0, none⟩ = some (.int .i64 (S : Int)) := Jg.out.cell 0 (by simp)
  have zg1 : (w.alloc (.cells #[(.int .i64 (S : Int)), (.slice qa ql qc), (.slice pa pl pc)] 48)).cell? ⟨w.heap.size, 1, none⟩ = some (.slice qa ql qc) := Jg.out.cell 1 (by simp)
  have zg2 : (w.alloc (.cells #[(.int .i64 (S : Int)), (.slice qa ql qc), (.slice pa pl pc)] 48)).cell? ⟨w.heap.size, 2, none⟩ = some (.slice pa pl pc) := Jg.out.cell 2 (by simp)
  go_enter Tryz.func80, Tryz.ntmps80
  go_wp2_with fail
  clear zg0 zg1 zg2
  generalize (w.alloc (.cells #[(.int .i64 (S : Int)), (.slice qa ql qc), (.slice pa pl pc)] 48)) = V0 at *
  refine (C1.out V0 va (.slice qa ql qc) NA.out NQ.out).mono ?_
  rintro e U1 ⟨rfl, hb⟩
  replace B := aB B hb
  replace Jg := aJ Jg hb
  replace NQ := aN NQ hb
  replace NP := aN NP hb
  replace NA := aN NA hb
  clear hb
  have zg_0 : U1.cell? ⟨w.heap.size, 0, none⟩ = some ((.int .i64 (S : Int))) := IHolds.cell (l := [(.int .i64 (S : Int)), (.slice qa ql qc), (.slice pa pl pc)]) (t := 48) (b := w.heap.size) (w := U1) (Jg.out) 0 (by simp)
  have zg_1 : U1.cell? ⟨w.heap.size, 1, none⟩ = some ((.slice qa ql qc)) := IHolds.cell (l := [(.int .i64 (S : Int)), (.slice qa ql qc), (.slice pa pl pc)]) (t := 48) (b := w.heap.size) (w := U1) (Jg.out) 1 (by simp)
  have zg_2 : U1.cell? ⟨w.heap.size, 2, none⟩ = some ((.slice pa pl pc)) := IHolds.cell (l := [(.int .i64 (S : Int)), (.slice qa ql qc), (.slice pa pl pc)]) (t := 48) (b := w.heap.size) (w := U1) (Jg.out) 2 (by simp)
  go_wp2_with fail
  clear zg_0 zg_1 zg_2
  refine (C2.out U1 (.slice pa pl pc) va NP.out NA.out).mono ?_
  rintro e U2 ⟨⟨yr, rfl, hv⟩, hb⟩
  have Nyr : Hid (NumV U2 65536 (r) yr) := hv
  clear hv
  replace B := aB B hb
  replace Jg := aJ Jg hb
  replace NQ := aN NQ hb
  replace NP := aN NP hb
  replace NA := aN NA hb
  clear hb
  go_wp2_with fail
  go_ret
  exact ⟨⟨_, rfl, Nyr.out⟩, B.out⟩
set_option maxRecDepth 100000 in
set_option maxHeartbeats 2000000 in
theorem low_lo {w : World} {q p S : Nat} {qa pa : Option Addr} {ql qc pl pc : Nat} (NQ : Hid (NumV w 65536 q (.slice qa ql qc))) (NP : Hid (NumV w 65536 p (.slice pa pl pc))) {a r : Nat} {va : Value} (NA : Hid (NumV w 65536 a va)) {c : Int} (hc : (0 : Int) < c ↔ False)
    (C1 : Hid (∀ W v v', NumV W 65536 a v → NumV W 65536 q v' → Calls Tryz.prog 54 #[v, v'] W fun e w' => e = .returned (.int .i64 c) ∧ Below W.heap.size W w'))  :
    Calls Tryz.prog 80 #[.agg #[.int .i64 (S : Int), .slice qa ql qc, .slice pa pl pc], va] w fun e w' => (∃ v, e = .returned v ∧ NumV w' 65536 a v) ∧ Below w.heap.size w w' := by
  have hc1 : ¬ (0 : Int) < c := by simpa using hc
  clear hc
  have Jg : Hid (IHolds (w.alloc (.cells #[(.int .i64 (S : Int)), (.slice qa ql qc), (.slice pa pl pc)] 48)) w.heap.size 48 [(.int .i64 (S : Int)), (.slice qa ql qc), (.slice pa pl pc)]) := IHolds.new w 48 _
  have B : Hid (Below w.heap.size w (w.alloc (.cells #[(.int .i64 (S : Int)), (.slice qa ql qc), (.slice pa pl pc)] 48))) := nB _ _
  replace NQ := aN NQ B.out
  replace NP := aN NP B.out
  replace NA := aN NA B.out
  have zg0 : (w.alloc (.cells #[(.int .i64 (S : Int)), (.slice qa ql qc), (.slice pa pl pc)] 48)).cell? ⟨w.heap.size, 0, none⟩ = some (.int .i64 (S : Int)) := Jg.out.cell 0 (by simp)
  have zg1 : (w.alloc (.cells #[(.int .i64 (S : Int)), (.slice qa ql qc), (.slice pa pl pc)] 48)).cell? ⟨w.heap.size, 1, none⟩ = some (.slice qa ql qc) := Jg.out.cell 1 (by simp)
  have zg2 : (w.alloc (.cells #[(.int .i64 (S : Int)), (.slice qa ql qc), (.slice pa pl pc)] 48)).cell? ⟨w.heap.size, 2, none⟩ = some (.slice pa pl pc) := Jg.out.cell 2 (by simp)
  go_enter Tryz.func80, Tryz.ntmps80
  go_wp2_with fail
  clear zg0 zg1 zg2
  generalize (w.alloc (.cells #[(.int .i64 (S : Int)), (.slice qa ql qc), (.slice pa pl pc)] 48)) = V0 at *
  refine (C1.out V0 va (.slice qa ql qc) NA.out NQ.out).mono ?_
  rintro e U1 ⟨rfl, hb⟩
  replace B := aB B hb
  replace Jg := aJ Jg hb
  replace NQ := aN NQ hb
  replace NP := aN NP hb
  replace NA := aN NA hb
  clear hb
  have zg_0 : U1.cell? ⟨w.heap.size, 0, none⟩ = some ((.int .i64 (S : Int))) := IHolds.cell (l := [(.int .i64 (S : Int)), (.slice qa ql qc), (.slice pa pl pc)]) (t := 48) (b := w.heap.size) (w := U1) (Jg.out) 0 (by simp)
  have zg_1 : U1.cell? ⟨w.heap.size, 1, none⟩ = some ((.slice qa ql qc)) := IHolds.cell (l := [(.int .i64 (S : Int)), (.slice qa ql qc), (.slice pa pl pc)]) (t := 48) (b := w.heap.size) (w := U1) (Jg.out) 1 (by simp)
  have zg_2 : U1.cell? ⟨w.heap.size, 2, none⟩ = some ((.slice pa pl pc)) := IHolds.cell (l := [(.int .i64 (S : Int)), (.slice qa ql qc), (.slice pa pl pc)]) (t := 48) (b := w.heap.size) (w := U1) (Jg.out) 2 (by simp)
  go_wp2_with fail
  clear zg_0 zg_1 zg_2
  go_ret
  exact ⟨⟨_, rfl, NA.out⟩, B.out⟩
set_option maxRecDepth 100000 in
set_option maxHeartbeats 2000000 in
theorem product_words {w : World} {q p S : Nat} {qa pa : Option Addr} {ql qc pl pc : Nat} (NQ : Hid (NumV w 65536 q (.slice qa ql qc))) (NP : Hid (NumV w 65536 p (.slice pa pl pc))) {a b r0 r1 r : Nat} {va vb : Value} (NA : Hid (NumV w 65536 a va)) (NB' : Hid (NumV w 65536 b vb))
    (C1 : Hid (∀ W v v', NumV W 65536 a v → NumV W 65536 b v' → Calls Tryz.prog 36 #[v, v'] W fun e w' => (∃ v, e = .returned v ∧ NumV w' 65536 r0 v) ∧ Below W.heap.size W w'))
    (C2 : Hid (∀ W v v', NumV W 65536 r0 v → NumV W 65536 p v' → Calls Tryz.prog 78 #[v, v'] W fun e w' => (∃ v, e = .returned v ∧ NumV w' 65536 r1 v) ∧ Below W.heap.size W w'))
    (CLo : Hid (∀ W v, NumV W 65536 q (.slice qa ql qc) → NumV W 65536 p (.slice pa pl pc) → NumV W 65536 r1 v → Calls Tryz.prog 80 #[.agg #[.int .i64 (S : Int), .slice qa ql qc, .slice pa pl pc], v] W fun e w' => (∃ v, e = .returned v ∧ NumV w' 65536 r v) ∧ Below W.heap.size W w')) :
    Calls Tryz.prog 56 #[.agg #[.int .i64 (S : Int), .slice qa ql qc, .slice pa pl pc], va, vb] w fun e w' => (∃ v, e = .returned v ∧ NumV w' 65536 r v) ∧ Below w.heap.size w w' := by
  go_enter Tryz.func56, Tryz.ntmps56
  go_wp2_with fail
  obtain ⟨U1, hU1⟩ : ∃ X, X = (w.alloc (.cells #[(.int .i64 (S : Int)), (.slice qa ql qc), (.slice pa pl pc)] 48)) := ⟨_, rfl⟩
  have Jg : Hid (IHolds U1 (w.heap.size) 48 [(.int .i64 (S : Int)), (.slice qa ql qc), (.slice pa pl pc)]) := by
    have q := IHolds.new w 48 [(.int .i64 (S : Int)), (.slice qa ql qc), (.slice pa pl pc)]
    show IHolds _ _ _ _
    rw [hU1]
    exact q
  have B : Hid (Below w.heap.size w U1) := by
    show Below _ _ _
    rw [hU1]
    exact ((Below.refl _ w).alloc (Nat.le_refl _) _)
  rw [← hU1]
  have hb : Below w.heap.size w U1 := B.out
  replace NQ := aN NQ hb
  replace NP := aN NP hb
  replace NA := aN NA hb
  replace NB' := aN NB' hb
  clear hb
  clear hU1
  have hb := dB U1
  replace B := aB B hb
  replace Jg := aJ Jg hb
  replace NQ := aN NQ hb
  replace NP := aN NP hb
  replace NA := aN NA hb
  replace NB' := aN NB' hb
  clear hb
  refine wp_region_held_drew (S := fun W => (IHolds W (w.heap.size) 48 [(.int .i64 (S : Int)), (.slice qa ql qc), (.slice pa pl pc)])) (by kernel_rfl) Jg.out (fun hHeld1 => ?_)
  generalize U1.drew = U2 at *
  refine tk (i := 0) (v := .agg #[(.int .i64 (S : Int)), (.slice qa ql qc), (.slice pa pl pc)]) rfl (by kernel_rfl) (fun _ _ _ h => h) rfl ?_ hHeld1 ?_
  · intro W hS; have zg_0 : W.cell? ⟨w.heap.size, 0, none⟩ = some ((.int .i64 (S : Int))) := IHolds.cell (l := [(.int .i64 (S : Int)), (.slice qa ql qc), (.slice pa pl pc)]) (t := 48) (b := w.heap.size) (w := W) (hS) 0 (by simp); have zg_1 : W.cell? ⟨w.heap.size, 1, none⟩ = some ((.slice qa ql qc)) := IHolds.cell (l := [(.int .i64 (S : Int)), (.slice qa ql qc), (.slice pa pl pc)]) (t := 48) (b := w.heap.size) (w := W) (hS) 1 (by simp); have zg_2 : W.cell? ⟨w.heap.size, 2, none⟩ = some ((.slice pa pl pc)) := IHolds.cell (l := [(.int .i64 (S : Int)), (.slice qa ql qc), (.slice pa pl pc)]) (t := 48) (b := w.heap.size) (w := W) (hS) 2 (by simp); go_simp
  simp only [Act.put, y1, y2, y3, y4, y5, y6, y7]
  refine tk (i := 1) (v := va) rfl (by kernel_rfl) (fun _ _ _ h => h) rfl ?_ hHeld1 ?_
  · intro W hS; go_simp
  simp only [Act.put, y1, y2, y3, y4, y5, y6, y7]
  refine tk (i := 2) (v := vb) rfl (by kernel_rfl) (fun _ _ _ h => h) rfl ?_ hHeld1 ?_
  · intro W hS; go_simp
  simp only [Act.put, y1, y2, y3, y4, y5, y6, y7]
  refine tk (i := 4) (v := .pointer (some ⟨w.heap.size, 2, none⟩)) rfl (by kernel_rfl) (fun _ _ _ h => h) rfl ?_ hHeld1 ?_
  · intro W hS; go_simp
  simp only [Act.put, y1, y2, y3, y4, y5, y6, y7]
  refine tk (i := 5) (v := (.slice pa pl pc)) rfl (by kernel_rfl) (fun _ _ _ h => h) rfl ?_ hHeld1 ?_
  · intro W hS; have zg_0 : W.cell? ⟨w.heap.size, 0, none⟩ = some ((.int .i64 (S : Int))) := IHolds.cell (l := [(.int .i64 (S : Int)), (.slice qa ql qc), (.slice pa pl pc)]) (t := 48) (b := w.heap.size) (w := W) (hS) 0 (by simp); have zg_1 : W.cell? ⟨w.heap.size, 1, none⟩ = some ((.slice qa ql qc)) := IHolds.cell (l := [(.int .i64 (S : Int)), (.slice qa ql qc), (.slice pa pl pc)]) (t := 48) (b := w.heap.size) (w := W) (hS) 1 (by simp); have zg_2 : W.cell? ⟨w.heap.size, 2, none⟩ = some ((.slice pa pl pc)) := IHolds.cell (l := [(.int .i64 (S : Int)), (.slice qa ql qc), (.slice pa pl pc)]) (t := 48) (b := w.heap.size) (w := W) (hS) 2 (by simp); go_simp
  simp only [Act.put, y1, y2, y3, y4, y5, y6, y7]
  refine wpAnyH_ready (rs := [3]) (by kernel_rfl) (by simp) ?_
  refine AllReadyH.cons rfl (fun K hK => ?_) AllReadyH.nil
  clear hHeld1
  go_simp
  refine (C1.out U2 va vb NA.out NB'.out).mono ?_
  rintro e U3 ⟨⟨y0, rfl, hv⟩, hb⟩
  have Ny0 : Hid (NumV U3 65536 (r0) y0) := hv
  clear hv
  replace B := aB B hb
  replace Jg := aJ Jg hb
  replace NQ := aN NQ hb
  replace NP := aN NP hb
  replace NA := aN NA hb
  replace NB' := aN NB' hb
  clear hb
  go_wp2_with fail
  refine hK.out _ _ (Jg.out) (fun hHeld2 => ?_)
  clear hK K
  try simp only [Act.put, y1, y2, y3, y4, y5, y6, y7]
  refine wpAnyH_ready (rs := [6]) (by kernel_rfl) (by simp) ?_
  refine AllReadyH.cons rfl (fun K hK => ?_) AllReadyH.nil
  clear hHeld2
  go_simp
  refine (C2.out U3 y0 (.slice pa pl pc) Ny0.out NP.out).mono ?_
  rintro e U4 ⟨⟨yy1, rfl, hv⟩, hb⟩
  have Nyy1 : Hid (NumV U4 65536 (r1) yy1) := hv
  clear hv
  replace B := aB B hb
  replace Jg := aJ Jg hb
  replace NQ := aN NQ hb
  replace NP := aN NP hb
  replace NA := aN NA hb
  replace NB' := aN NB' hb
  replace Ny0 := aN Ny0 hb
  clear hb
  go_wp2_with fail
  refine hK.out _ _ (Jg.out) (fun hHeld3 => ?_)
  clear hK K
  try simp only [Act.put, y1, y2, y3, y4, y5, y6, y7]
  refine wpAnyH_ready (rs := [7]) (by kernel_rfl) (by simp) ?_
  refine AllReadyH.cons rfl (fun K hK => ?_) AllReadyH.nil
  clear hHeld3
  go_simp
  refine (CLo.out U4 yy1 NQ.out NP.out Nyy1.out).mono ?_
  rintro e U5 ⟨⟨y9, rfl, hv⟩, hb⟩
  have Ny9 : Hid (NumV U5 65536 (r) y9) := hv
  clear hv
  replace B := aB B hb
  replace Jg := aJ Jg hb
  replace NQ := aN NQ hb
  replace NP := aN NP hb
  replace NA := aN NA hb
  replace NB' := aN NB' hb
  replace Ny0 := aN Ny0 hb
  replace Nyy1 := aN Nyy1 hb
  clear hb
  go_wp2_with fail
  refine hK.out _ _ (Jg.out) (fun hHeld4 => ?_)
  clear hK K
  try simp only [Act.put, y1, y2, y3, y4, y5, y6, y7]
  refine tk (i := 8) (v := y9) rfl (by kernel_rfl) (fun _ _ _ h => h) rfl ?_ hHeld4 ?_
  · intro W hS; go_simp
  simp only [Act.put, y1, y2, y3, y4, y5, y6, y7]
  refine wpAnyH_done (by kernel_rfl) ?_ _
  clear hHeld4
  go_wp2_with fail
  go_ret
  exact ⟨⟨_, rfl, Ny9.out⟩, B.out⟩
set_option maxRecDepth 100000 in
set_option maxHeartbeats 2000000 in
theorem power_words {w : World} {q p S : Nat} {qa pa : Option Addr} {ql qc pl pc : Nat} (NQ : Hid (NumV w 65536 q (.slice qa ql qc))) (NP : Hid (NumV w 65536 p (.slice pa pl pc))) {a b r1 r : Nat} {va vb : Value} (NA : Hid (NumV w 65536 a va)) (NB' : Hid (NumV w 65536 b vb))
    (C1 : Hid (∀ W v v' v'', NumV W 65536 a v → NumV W 65536 b v' → NumV W 65536 p v'' → Calls Tryz.prog 90 #[v, v', v''] W fun e w' => (∃ v, e = .returned v ∧ NumV w' 65536 r1 v) ∧ Below W.heap.size W w'))
    (CLo : Hid (∀ W v, NumV W 65536 q (.slice qa ql qc) → NumV W 65536 p (.slice pa pl pc) → NumV W 65536 r1 v → Calls Tryz.prog 80 #[.agg #[.int .i64 (S : Int), .slice qa ql qc, .slice pa pl pc], v] W fun e w' => (∃ v, e = .returned v ∧ NumV w' 65536 r v) ∧ Below W.heap.size W w')) :
    Calls Tryz.prog 69 #[.agg #[.int .i64 (S : Int), .slice qa ql qc, .slice pa pl pc], va, vb] w fun e w' => (∃ v, e = .returned v ∧ NumV w' 65536 r v) ∧ Below w.heap.size w w' := by
  go_enter Tryz.func69, Tryz.ntmps69
  go_wp2_with fail
  obtain ⟨U1, hU1⟩ : ∃ X, X = (w.alloc (.cells #[(.int .i64 (S : Int)), (.slice qa ql qc), (.slice pa pl pc)] 48)) := ⟨_, rfl⟩
  have Jg : Hid (IHolds U1 (w.heap.size) 48 [(.int .i64 (S : Int)), (.slice qa ql qc), (.slice pa pl pc)]) := by
    have q := IHolds.new w 48 [(.int .i64 (S : Int)), (.slice qa ql qc), (.slice pa pl pc)]
    show IHolds _ _ _ _
    rw [hU1]
    exact q
  have B : Hid (Below w.heap.size w U1) := by
    show Below _ _ _
    rw [hU1]
    exact ((Below.refl _ w).alloc (Nat.le_refl _) _)
  rw [← hU1]
  have hb : Below w.heap.size w U1 := B.out
  replace NQ := aN NQ hb
  replace NP := aN NP hb
  replace NA := aN NA hb
  replace NB' := aN NB' hb
  clear hb
  clear hU1
  have hb := dB U1
  replace B := aB B hb
  replace Jg := aJ Jg hb
  replace NQ := aN NQ hb
  replace NP := aN NP hb
  replace NA := aN NA hb
  replace NB' := aN NB' hb
  clear hb
  refine wp_region_held_drew (S := fun W => (IHolds W (w.heap.size) 48 [(.int .i64 (S : Int)), (.slice qa ql qc), (.slice pa pl pc)])) (by kernel_rfl) Jg.out (fun hHeld1 => ?_)
  generalize U1.drew = U2 at *
  refine tk (i := 0) (v := .agg #[(.int .i64 (S : Int)), (.slice qa ql qc), (.slice pa pl pc)]) rfl (by kernel_rfl) (fun _ _ _ h => h) rfl ?_ hHeld1 ?_
  · intro W hS; have zg_0 : W.cell? ⟨w.heap.size, 0, none⟩ = some ((.int .i64 (S : Int))) := IHolds.cell (l := [(.int .i64 (S : Int)), (.slice qa ql qc), (.slice pa pl pc)]) (t := 48) (b := w.heap.size) (w := W) (hS) 0 (by simp); have zg_1 : W.cell? ⟨w.heap.size, 1, none⟩ = some ((.slice qa ql qc)) := IHolds.cell (l := [(.int .i64 (S : Int)), (.slice qa ql qc), (.slice pa pl pc)]) (t := 48) (b := w.heap.size) (w := W) (hS) 1 (by simp); have zg_2 : W.cell? ⟨w.heap.size, 2, none⟩ = some ((.slice pa pl pc)) := IHolds.cell (l := [(.int .i64 (S : Int)), (.slice qa ql qc), (.slice pa pl pc)]) (t := 48) (b := w.heap.size) (w := W) (hS) 2 (by simp); go_simp
  simp only [Act.put, y1, y2, y3, y4, y5, y6, y7]
  refine tk (i := 1) (v := va) rfl (by kernel_rfl) (fun _ _ _ h => h) rfl ?_ hHeld1 ?_
  · intro W hS; go_simp
  simp only [Act.put, y1, y2, y3, y4, y5, y6, y7]
  refine tk (i := 2) (v := vb) rfl (by kernel_rfl) (fun _ _ _ h => h) rfl ?_ hHeld1 ?_
  · intro W hS; go_simp
  simp only [Act.put, y1, y2, y3, y4, y5, y6, y7]
  refine tk (i := 3) (v := .pointer (some ⟨w.heap.size, 2, none⟩)) rfl (by kernel_rfl) (fun _ _ _ h => h) rfl ?_ hHeld1 ?_
  · intro W hS; go_simp
  simp only [Act.put, y1, y2, y3, y4, y5, y6, y7]
  refine tk (i := 4) (v := (.slice pa pl pc)) rfl (by kernel_rfl) (fun _ _ _ h => h) rfl ?_ hHeld1 ?_
  · intro W hS; have zg_0 : W.cell? ⟨w.heap.size, 0, none⟩ = some ((.int .i64 (S : Int))) := IHolds.cell (l := [(.int .i64 (S : Int)), (.slice qa ql qc), (.slice pa pl pc)]) (t := 48) (b := w.heap.size) (w := W) (hS) 0 (by simp); have zg_1 : W.cell? ⟨w.heap.size, 1, none⟩ = some ((.slice qa ql qc)) := IHolds.cell (l := [(.int .i64 (S : Int)), (.slice qa ql qc), (.slice pa pl pc)]) (t := 48) (b := w.heap.size) (w := W) (hS) 1 (by simp); have zg_2 : W.cell? ⟨w.heap.size, 2, none⟩ = some ((.slice pa pl pc)) := IHolds.cell (l := [(.int .i64 (S : Int)), (.slice qa ql qc), (.slice pa pl pc)]) (t := 48) (b := w.heap.size) (w := W) (hS) 2 (by simp); go_simp
  simp only [Act.put, y1, y2, y3, y4, y5, y6, y7]
  refine wpAnyH_ready (rs := [5]) (by kernel_rfl) (by simp) ?_
  refine AllReadyH.cons rfl (fun K hK => ?_) AllReadyH.nil
  clear hHeld1
  go_simp
  refine (C1.out U2 va vb (.slice pa pl pc) NA.out NB'.out NP.out).mono ?_
  rintro e U3 ⟨⟨yy1, rfl, hv⟩, hb⟩
  have Nyy1 : Hid (NumV U3 65536 (r1) yy1) := hv
  clear hv
  replace B := aB B hb
  replace Jg := aJ Jg hb
  replace NQ := aN NQ hb
  replace NP := aN NP hb
  replace NA := aN NA hb
  replace NB' := aN NB' hb
  clear hb
  go_wp2_with fail
  refine hK.out _ _ (Jg.out) (fun hHeld2 => ?_)
  clear hK K
  try simp only [Act.put, y1, y2, y3, y4, y5, y6, y7]
  refine wpAnyH_ready (rs := [6]) (by kernel_rfl) (by simp) ?_
  refine AllReadyH.cons rfl (fun K hK => ?_) AllReadyH.nil
  clear hHeld2
  go_simp
  refine (CLo.out U3 yy1 NQ.out NP.out Nyy1.out).mono ?_
  rintro e U4 ⟨⟨y9, rfl, hv⟩, hb⟩
  have Ny9 : Hid (NumV U4 65536 (r) y9) := hv
  clear hv
  replace B := aB B hb
  replace Jg := aJ Jg hb
  replace NQ := aN NQ hb
  replace NP := aN NP hb
  replace NA := aN NA hb
  replace NB' := aN NB' hb
  replace Nyy1 := aN Nyy1 hb
  clear hb
  go_wp2_with fail
  refine hK.out _ _ (Jg.out) (fun hHeld3 => ?_)
  clear hK K
  try simp only [Act.put, y1, y2, y3, y4, y5, y6, y7]
  refine tk (i := 7) (v := y9) rfl (by kernel_rfl) (fun _ _ _ h => h) rfl ?_ hHeld3 ?_
  · intro W hS; go_simp
  simp only [Act.put, y1, y2, y3, y4, y5, y6, y7]
  refine wpAnyH_done (by kernel_rfl) ?_ _
  clear hHeld3
  go_wp2_with fail
  go_ret
  exact ⟨⟨_, rfl, Ny9.out⟩, B.out⟩
section
variable {z : Int} {G : Array Value} {S Wd M low one sq Ri Wd2 M2 low2 one2 sq2 Ri2 : Nat}
theorem lowV (k : KD z G S Wd M low one sq Ri Wd2 M2 low2 one2 sq2 Ri2) {w : World} {a : Nat} {u1 u2 va : Value} (h1 : NumV w 65536 M u1) (h2 : NumV w 65536 M2 u2) (ha : NumV w 65536 a va) (a9 : a < M2) :
    Calls Tryz.prog 80 #[.agg #[.int .i64 (S : Int), u1, u2], va] w fun e w' => (∃ v, e = .returned v ∧ NumV w' 65536 (sgn M M2 a) v) ∧ Below w.heap.size w w' := by
  have N1 : Hid (NumV w 65536 M u1) := h1
  have N2 : Hid (NumV w 65536 M2 u2) := h2
  obtain ⟨qa, ql, qc, rfl⟩ := sN N1
  obtain ⟨pa, pl, pc, rfl⟩ := sN N2
  have lp := k.p5
  have lq := k.l5
  unfold sgn
  by_cases h : M < a
  · rw [if_pos h]
    exact low_hi N1 N2 ha (c := cmp3 (a : Int) (M : Int)) (by rw [cmp3_gt (by omega)]; simp) (fun W v v' g1 g2 => compareV g1 g2 (lenD (Nat.le_of_lt a9) lp) (lenD (Nat.le_refl _) lq)) (fun W v v' g1 g2 => minusV g1 g2 (lenD (Nat.le_refl _) lp) (lenD (Nat.le_of_lt a9) lp) (by omega))
  · rw [if_neg h]
    refine low_lo (r := 0) N1 N2 ha (c := cmp3 (a : Int) (M : Int)) ?_ (fun W v v' g1 g2 => compareV g1 g2 (lenD (Nat.le_of_lt a9) lp) (lenD (Nat.le_refl _) lq))
    rcases Nat.lt_or_eq_of_le (Nat.le_of_not_lt h) with h3 | h3
    · rw [cmp3_lt (by omega)]; simp
    · rw [cmp3_eq (by omega)]; simp
theorem productV (k : KD z G S Wd M low one sq Ri Wd2 M2 low2 one2 sq2 Ri2) {w : World} {a b : Nat} {u1 u2 va vb : Value} (h1 : NumV w 65536 M u1) (h2 : NumV w 65536 M2 u2) (ha : NumV w 65536 a va) (hb : NumV w 65536 b vb) (a9 : a < M2) (b9 : b < M2) :
    Calls Tryz.prog 56 #[.agg #[.int .i64 (S : Int), u1, u2], va, vb] w fun e w' => (∃ v, e = .returned v ∧ NumV w' 65536 (sgn M M2 (a * b % M2)) v) ∧ Below w.heap.size w w' := by
  have N1 : Hid (NumV w 65536 M u1) := h1
  have N2 : Hid (NumV w 65536 M2 u2) := h2
  obtain ⟨qa, ql, qc, rfl⟩ := sN N1
  obtain ⟨pa, pl, pc, rfl⟩ := sN N2
  have lp := k.p5
  have hm := k.fl2.m2
  exact product_words N1 N2 ha hb (fun W v v' g1 g2 => timesV g1 g2 (lenD (Nat.le_of_lt a9) lp) (lenD (Nat.le_of_lt b9) lp)) (fun W v v' g1 g2 => modV g1 g2 (lenD (Nat.mul_le_mul (Nat.le_of_lt a9) (Nat.le_of_lt b9)) k.lp) (lenD (Nat.le_refl _) lp) (by omega)) (fun W v g1 g2 g3 => lowV k g1 g2 g3 (k.mod2 _))
theorem powerEV (k : KD z G S Wd M low one sq Ri Wd2 M2 low2 one2 sq2 Ri2) {w : World} {a b : Nat} {u1 u2 va vb : Value} (h1 : NumV w 65536 M u1) (h2 : NumV w 65536 M2 u2) (ha : NumV w 65536 a va) (hb : NumV w 65536 b vb) (a9 : a < M2) (b9 : b ≤ M) :
    Calls Tryz.prog 69 #[.agg #[.int .i64 (S : Int), u1, u2], va, vb] w fun e w' => (∃ v, e = .returned v ∧ NumV w' 65536 (sgn M M2 (a ^ b % M2)) v) ∧ Below w.heap.size w w' := by
  have N1 : Hid (NumV w 65536 M u1) := h1
  have N2 : Hid (NumV w 65536 M2 u2) := h2
  obtain ⟨qa, ql, qc, rfl⟩ := sN N1
  obtain ⟨pa, pl, pc, rfl⟩ := sN N2
  exact power_words N1 N2 ha hb (fun W v v' v'' g1 g2 g3 => powerV g1 g2 g3 a9 k.fl2.m2 (Nat.le_trans (dg_len_mono b16 b9) k.l5) (by have := k.lp; omega)) (fun W v g1 g2 g3 => lowV k g1 g2 g3 (k.mod2 _))
end
end Go.Proofs.YtfbceknafmkipaaGreat
