/- The reference: is it a scalar, is it an element; differences and numbers modulo the order. -/
import Derived.Test.YtohpbclofcflaaaGreatMod
import Derived.Test.YtohpbclofcflaaaGreatRead
set_option linter.unusedSimpArgs false
set_option linter.unusedVariables false
namespace Go.Proofs.YtohpbclofcflaaaGreat
open Go.RowKit Go.Deep Go.PlainAid

theorem tkU {P : Program} {md : Region.Mode} {ops : Array Oper} {Q : Exit → Act → World → Prop} {S : World → Prop} {i : Nat} {oi : Oper} {fuel : Nat} {listed : Array Bool} {a : Act} {w : World} (hi : ops[i]? = some oi)
    (hs : (Region.noSelect ops && (Region.free md ops listed i && (Region.ready md ops listed).contains i)) = true)
    (hQ : ∀ c a w, Q (.panic c) (a.put oi.dst undef) w → Q (.panic c) a w) (hw : Region.wanted oi (yielded ops a.tmps) = false) (hS : S w)
    (h : wpAnyH P md ops Q S fuel (listed.setIfInBounds i true) (a.put oi.dst undef) w) : wpAnyH P md ops Q S (fuel + 1) listed a w := by
  simp only [Bool.and_eq_true] at hs
  exact wpAnyH_take hi hs.1 hs.2.1 hs.2.2 hQ (Or.inr ⟨hw, rfl⟩) hS h
theorem NumV.len {W : World} {n L c : Nat} {a : Option Addr} (h : Hid (NumV W 65536 n (.slice a L c))) : L = (dg 65536 n).length := by
  obtain ⟨a', c', e, _⟩ := h.out
  simp only [Value.slice.injEq] at e
  exact e.2.1
set_option maxRecDepth 100000 in
set_option maxHeartbeats 2000000 in
theorem isScalar_no {w : World} {q : Nat} {qa : Option Addr} {ql qc : Nat} (NQ : Hid (NumV w 65536 q (.slice qa ql qc))) {pa : Option Addr} {pl pc : Nat} {S : Nat} {s : ByteArray} (hne : ((s.size : Int) == (S : Int)) = false) :
    Calls Tryz.prog 18 #[.agg #[.int .i64 (S : Int), .slice qa ql qc, .slice pa pl pc], .string s] w fun e w' => e = .returned (.bool false) ∧ Below w.heap.size w w' := by
  have hne2 : ¬ (s.size : Int) = (S : Int) := by simpa using hne
  go_enter Tryz.func18, Tryz.ntmps18
  go_wp2_with fail
  obtain ⟨U1, hU1⟩ : ∃ X, X = (w.alloc (.cells #[(.int .i64 (S : Int)), (.slice qa ql qc), (.slice pa pl pc)] 42)) := ⟨_, rfl⟩
  have Jg : Hid (IHolds U1 (w.heap.size) 42 [(.int .i64 (S : Int)), (.slice qa ql qc), (.slice pa pl pc)]) := by
    have q := IHolds.new w 42 [(.int .i64 (S : Int)), (.slice qa ql qc), (.slice pa pl pc)]
    show IHolds _ _ _ _
    rw [hU1]
    exact q
  have B : Hid (Below w.heap.size w U1) := by
    show Below _ _ _
    rw [hU1]
    exact ((Below.refl _ w).alloc (Nat.le_refl _) _)
  rw [← hU1]
  have hb : Below w.heap.size w U1 := B.out
  replace NQ := aN NQ hb
  clear hb
  clear hU1
  have hb := dB U1
  replace B := aB B hb
  replace Jg := aJ Jg hb
  replace NQ := aN NQ hb
  clear hb
  refine wp_region_held_drew (S := fun W => (IHolds W (w.heap.size) 42 [(.int .i64 (S : Int)), (.slice qa ql qc), (.slice pa pl pc)])) (by kernel_rfl) Jg.out (fun hHeld1 => ?_)
  generalize U1.drew = U2 at *
  refine tk (i := 0) (v := (.string s)) rfl (by kernel_rfl) (fun _ _ _ h => h) rfl ?_ hHeld1 ?_
  · intro W hS; go_simp
  simp only [Act.put, y1, y2, y3, y4, y5, y6, y7]
  refine tk (i := 2) (v := .pointer (some ⟨w.heap.size, 0, none⟩)) rfl (by kernel_rfl) (fun _ _ _ h => h) rfl ?_ hHeld1 ?_
  · intro W hS; go_simp
  simp only [Act.put, y1, y2, y3, y4, y5, y6, y7]
  refine tk (i := 1) (v := (.int .i64 (s.size : Int))) rfl (by kernel_rfl) (fun _ _ _ h => h) rfl ?_ hHeld1 ?_
  · intro W hS; go_simp
  simp only [Act.put, y1, y2, y3, y4, y5, y6, y7]
  refine tk (i := 3) (v := (.int .i64 (S : Int))) rfl (by kernel_rfl) (fun _ _ _ h => h) rfl ?_ hHeld1 ?_
  · intro W hS; have zg_0 : W.cell? ⟨w.heap.size, 0, none⟩ = some ((.int .i64 (S : Int))) := IHolds.cell (l := [(.int .i64 (S : Int)), (.slice qa ql qc), (.slice pa pl pc)]) (t := 42) (b := w.heap.size) (w := W) (hS) 0 (by simp); have zg_1 : W.cell? ⟨w.heap.size, 1, none⟩ = some ((.slice qa ql qc)) := IHolds.cell (l := [(.int .i64 (S : Int)), (.slice qa ql qc), (.slice pa pl pc)]) (t := 42) (b := w.heap.size) (w := W) (hS) 1 (by simp); have zg_2 : W.cell? ⟨w.heap.size, 2, none⟩ = some ((.slice pa pl pc)) := IHolds.cell (l := [(.int .i64 (S : Int)), (.slice qa ql qc), (.slice pa pl pc)]) (t := 42) (b := w.heap.size) (w := W) (hS) 2 (by simp); go_simp
  simp only [Act.put, y1, y2, y3, y4, y5, y6, y7]
  refine tk (i := 4) (v := (.bool false)) rfl (by kernel_rfl) (fun _ _ _ h => h) rfl ?_ hHeld1 ?_
  · intro W hS; go_simp
  simp only [Act.put, y1, y2, y3, y4, y5, y6, y7]
  refine tk (i := 5) (v := (.bool false)) rfl (by kernel_rfl) (fun _ _ _ h => h) rfl ?_ hHeld1 ?_
  · intro W hS; go_simp
  simp only [Act.put, y1, y2, y3, y4, y5, y6, y7]
  refine tkU (i := 6) rfl (by kernel_rfl) (fun _ _ _ h => h) rfl hHeld1 ?_
  simp only [Act.put, y1, y2, y3, y4, y5, y6, y7]
  refine tkU (i := 8) rfl (by kernel_rfl) (fun _ _ _ h => h) rfl hHeld1 ?_
  simp only [Act.put, y1, y2, y3, y4, y5, y6, y7]
  refine tkU (i := 7) rfl (by kernel_rfl) (fun _ _ _ h => h) rfl hHeld1 ?_
  simp only [Act.put, y1, y2, y3, y4, y5, y6, y7]
  refine tkU (i := 9) rfl (by kernel_rfl) (fun _ _ _ h => h) rfl hHeld1 ?_
  simp only [Act.put, y1, y2, y3, y4, y5, y6, y7]
  refine tkU (i := 10) rfl (by kernel_rfl) (fun _ _ _ h => h) rfl hHeld1 ?_
  simp only [Act.put, y1, y2, y3, y4, y5, y6, y7]
  refine tkU (i := 11) rfl (by kernel_rfl) (fun _ _ _ h => h) rfl hHeld1 ?_
  simp only [Act.put, y1, y2, y3, y4, y5, y6, y7]
  refine tk (i := 12) (v := (.bool false)) rfl (by kernel_rfl) (fun _ _ _ h => h) rfl ?_ hHeld1 ?_
  · intro W hS; go_simp
  simp only [Act.put, y1, y2, y3, y4, y5, y6, y7]
  refine tk (i := 13) (v := (.bool false)) rfl (by kernel_rfl) (fun _ _ _ h => h) rfl ?_ hHeld1 ?_
  · intro W hS; go_simp
  simp only [Act.put, y1, y2, y3, y4, y5, y6, y7]
  refine wpAnyH_done (by kernel_rfl) ?_ _
  clear hHeld1
  go_wp2_with fail
  go_ret
  exact ⟨rfl, B.out⟩
set_option maxRecDepth 100000 in
set_option maxHeartbeats 2000000 in
theorem isScalar_is {w : World} {q : Nat} {qa : Option Addr} {ql qc : Nat} (NQ : Hid (NumV w 65536 q (.slice qa ql qc))) {pa : Option Addr} {pl pc : Nat} {s : ByteArray} {N : Nat} {c : Int} {t : Bool} (CR : Hid (∀ W, Calls Tryz.prog 20 #[.string s] W fun e w' => (∃ v, e = .returned v ∧ NumV w' 65536 N v) ∧ Below W.heap.size W w')) (CC : Hid (∀ W v v', NumV W 65536 N v → NumV W 65536 q v' → Calls Tryz.prog 41 #[v, v'] W fun e w' => e = .returned (.int .i64 c) ∧ Below W.heap.size W w')) (hc : decide (c < 0) = t) :
    Calls Tryz.prog 18 #[.agg #[.int .i64 (s.size : Int), .slice qa ql qc, .slice pa pl pc], .string s] w fun e w' => e = .returned (.bool t) ∧ Below w.heap.size w w' := by
  go_enter Tryz.func18, Tryz.ntmps18
  go_wp2_with fail
  obtain ⟨U1, hU1⟩ : ∃ X, X = (w.alloc (.cells #[(.int .i64 (s.size : Int)), (.slice qa ql qc), (.slice pa pl pc)] 42)) := ⟨_, rfl⟩
  have Jg : Hid (IHolds U1 (w.heap.size) 42 [(.int .i64 (s.size : Int)), (.slice qa ql qc), (.slice pa pl pc)]) := by
    have q := IHolds.new w 42 [(.int .i64 (s.size : Int)), (.slice qa ql qc), (.slice pa pl pc)]
    show IHolds _ _ _ _
    rw [hU1]
    exact q
  have B : Hid (Below w.heap.size w U1) := by
    show Below _ _ _
    rw [hU1]
    exact ((Below.refl _ w).alloc (Nat.le_refl _) _)
  rw [← hU1]
  have hb : Below w.heap.size w U1 := B.out
  replace NQ := aN NQ hb
  clear hb
  clear hU1
  have hb := dB U1
  replace B := aB B hb
  replace Jg := aJ Jg hb
  replace NQ := aN NQ hb
  clear hb
  refine wp_region_held_drew (S := fun W => (IHolds W (w.heap.size) 42 [(.int .i64 (s.size : Int)), (.slice qa ql qc), (.slice pa pl pc)])) (by kernel_rfl) Jg.out (fun hHeld1 => ?_)
  generalize U1.drew = U2 at *
  refine tk (i := 0) (v := (.string s)) rfl (by kernel_rfl) (fun _ _ _ h => h) rfl ?_ hHeld1 ?_
  · intro W hS; go_simp
  simp only [Act.put, y1, y2, y3, y4, y5, y6, y7]
  refine tk (i := 2) (v := .pointer (some ⟨w.heap.size, 0, none⟩)) rfl (by kernel_rfl) (fun _ _ _ h => h) rfl ?_ hHeld1 ?_
  · intro W hS; go_simp
  simp only [Act.put, y1, y2, y3, y4, y5, y6, y7]
  refine tk (i := 1) (v := (.int .i64 (s.size : Int))) rfl (by kernel_rfl) (fun _ _ _ h => h) rfl ?_ hHeld1 ?_
  · intro W hS; go_simp
  simp only [Act.put, y1, y2, y3, y4, y5, y6, y7]
  refine tk (i := 3) (v := (.int .i64 (s.size : Int))) rfl (by kernel_rfl) (fun _ _ _ h => h) rfl ?_ hHeld1 ?_
  · intro W hS; have zg_0 : W.cell? ⟨w.heap.size, 0, none⟩ = some ((.int .i64 (s.size : Int))) := IHolds.cell (l := [(.int .i64 (s.size : Int)), (.slice qa ql qc), (.slice pa pl pc)]) (t := 42) (b := w.heap.size) (w := W) (hS) 0 (by simp); have zg_1 : W.cell? ⟨w.heap.size, 1, none⟩ = some ((.slice qa ql qc)) := IHolds.cell (l := [(.int .i64 (s.size : Int)), (.slice qa ql qc), (.slice pa pl pc)]) (t := 42) (b := w.heap.size) (w := W) (hS) 1 (by simp); have zg_2 : W.cell? ⟨w.heap.size, 2, none⟩ = some ((.slice pa pl pc)) := IHolds.cell (l := [(.int .i64 (s.size : Int)), (.slice qa ql qc), (.slice pa pl pc)]) (t := 42) (b := w.heap.size) (w := W) (hS) 2 (by simp); go_simp
  simp only [Act.put, y1, y2, y3, y4, y5, y6, y7]
  refine tk (i := 4) (v := (.bool true)) rfl (by kernel_rfl) (fun _ _ _ h => h) rfl ?_ hHeld1 ?_
  · intro W hS; go_simp
  simp only [Act.put, y1, y2, y3, y4, y5, y6, y7]
  refine tk (i := 5) (v := (.bool true)) rfl (by kernel_rfl) (fun _ _ _ h => h) rfl ?_ hHeld1 ?_
  · intro W hS; go_simp
  simp only [Act.put, y1, y2, y3, y4, y5, y6, y7]
  refine tk (i := 6) (v := (.string s)) rfl (by kernel_rfl) (fun _ _ _ h => h) rfl ?_ hHeld1 ?_
  · intro W hS; go_simp
  simp only [Act.put, y1, y2, y3, y4, y5, y6, y7]
  refine tk (i := 8) (v := .pointer (some ⟨w.heap.size, 1, none⟩)) rfl (by kernel_rfl) (fun _ _ _ h => h) rfl ?_ hHeld1 ?_
  · intro W hS; go_simp
  simp only [Act.put, y1, y2, y3, y4, y5, y6, y7]
  refine tk (i := 9) (v := (.slice qa ql qc)) rfl (by kernel_rfl) (fun _ _ _ h => h) rfl ?_ hHeld1 ?_
  · intro W hS; have zg_0 : W.cell? ⟨w.heap.size, 0, none⟩ = some ((.int .i64 (s.size : Int))) := IHolds.cell (l := [(.int .i64 (s.size : Int)), (.slice qa ql qc), (.slice pa pl pc)]) (t := 42) (b := w.heap.size) (w := W) (hS) 0 (by simp); have zg_1 : W.cell? ⟨w.heap.size, 1, none⟩ = some ((.slice qa ql qc)) := IHolds.cell (l := [(.int .i64 (s.size : Int)), (.slice qa ql qc), (.slice pa pl pc)]) (t := 42) (b := w.heap.size) (w := W) (hS) 1 (by simp); have zg_2 : W.cell? ⟨w.heap.size, 2, none⟩ = some ((.slice pa pl pc)) := IHolds.cell (l := [(.int .i64 (s.size : Int)), (.slice qa ql qc), (.slice pa pl pc)]) (t := 42) (b := w.heap.size) (w := W) (hS) 2 (by simp); go_simp
  simp only [Act.put, y1, y2, y3, y4, y5, y6, y7]
  refine wpAnyH_ready (rs := [7]) (by kernel_rfl) (by simp) ?_
  refine AllReadyH.cons rfl (fun K hK => ?_) AllReadyH.nil
  clear hHeld1
  go_simp
  refine (CR.out U2).mono ?_
  rintro e U3 ⟨⟨yr, rfl, hv⟩, hb⟩
  have Nyr : Hid (NumV U3 65536 (N) yr) := hv
  clear hv
  replace B := aB B hb
  replace Jg := aJ Jg hb
  replace NQ := aN NQ hb
  clear hb
  go_wp2_with fail
  refine hK.out _ _ (Jg.out) (fun hHeld2 => ?_)
  clear hK K
  try simp only [Act.put, y1, y2, y3, y4, y5, y6, y7]
  refine wpAnyH_ready (rs := [10]) (by kernel_rfl) (by simp) ?_
  refine AllReadyH.cons rfl (fun K hK => ?_) AllReadyH.nil
  clear hHeld2
  go_simp
  refine (CC.out U3 yr (.slice qa ql qc) Nyr.out NQ.out).mono ?_
  rintro e U4 ⟨rfl, hb⟩
  replace B := aB B hb
  replace Jg := aJ Jg hb
  replace NQ := aN NQ hb
  replace Nyr := aN Nyr hb
  clear hb
  go_wp2_with fail
  refine hK.out _ _ (Jg.out) (fun hHeld3 => ?_)
  clear hK K
  try simp only [Act.put, y1, y2, y3, y4, y5, y6, y7]
  refine tk (i := 11) (v := (.bool t)) rfl (by kernel_rfl) (fun _ _ _ h => h) rfl ?_ hHeld3 ?_
  · intro W hS; go_simp
  simp only [Act.put, y1, y2, y3, y4, y5, y6, y7]
  refine tk (i := 12) (v := (.bool t)) rfl (by kernel_rfl) (fun _ _ _ h => h) rfl ?_ hHeld3 ?_
  · intro W hS; go_simp
  simp only [Act.put, y1, y2, y3, y4, y5, y6, y7]
  refine tk (i := 13) (v := (.bool t)) rfl (by kernel_rfl) (fun _ _ _ h => h) rfl ?_ hHeld3 ?_
  · intro W hS; go_simp
  simp only [Act.put, y1, y2, y3, y4, y5, y6, y7]
  refine wpAnyH_done (by kernel_rfl) ?_ _
  clear hHeld3
  go_wp2_with fail
  go_ret
  exact ⟨rfl, B.out⟩
set_option maxRecDepth 100000 in
set_option maxHeartbeats 2000000 in
theorem isElem_no {w : World} {q : Nat} {qa : Option Addr} {ql qc : Nat} (NQ : Hid (NumV w 65536 q (.slice qa ql qc))) {pa : Option Addr} {pl pc : Nat} {S : Nat} {s : ByteArray} (hne : ((s.size : Int) == (S : Int)) = false) :
    Calls Tryz.prog 17 #[.agg #[.int .i64 (S : Int), .slice qa ql qc, .slice pa pl pc], .string s] w fun e w' => e = .returned (.bool false) ∧ Below w.heap.size w w' := by
  have hne2 : ¬ (s.size : Int) = (S : Int) := by simpa using hne
  go_enter Tryz.func17, Tryz.ntmps17
  go_wp2_with fail
  obtain ⟨U1, hU1⟩ : ∃ X, X = (w.alloc (.cells #[(.int .i64 (S : Int)), (.slice qa ql qc), (.slice pa pl pc)] 42)) := ⟨_, rfl⟩
  have Jg : Hid (IHolds U1 (w.heap.size) 42 [(.int .i64 (S : Int)), (.slice qa ql qc), (.slice pa pl pc)]) := by
    have q := IHolds.new w 42 [(.int .i64 (S : Int)), (.slice qa ql qc), (.slice pa pl pc)]
    show IHolds _ _ _ _
    rw [hU1]
    exact q
  have B : Hid (Below w.heap.size w U1) := by
    show Below _ _ _
    rw [hU1]
    exact ((Below.refl _ w).alloc (Nat.le_refl _) _)
  rw [← hU1]
  have hb : Below w.heap.size w U1 := B.out
  replace NQ := aN NQ hb
  clear hb
  clear hU1
  have hb := dB U1
  replace B := aB B hb
  replace Jg := aJ Jg hb
  replace NQ := aN NQ hb
  clear hb
  refine wp_region_held_drew (S := fun W => (IHolds W (w.heap.size) 42 [(.int .i64 (S : Int)), (.slice qa ql qc), (.slice pa pl pc)])) (by kernel_rfl) Jg.out (fun hHeld1 => ?_)
  generalize U1.drew = U2 at *
  refine tk (i := 0) (v := (.string s)) rfl (by kernel_rfl) (fun _ _ _ h => h) rfl ?_ hHeld1 ?_
  · intro W hS; go_simp
  simp only [Act.put, y1, y2, y3, y4, y5, y6, y7]
  refine tk (i := 2) (v := .pointer (some ⟨w.heap.size, 0, none⟩)) rfl (by kernel_rfl) (fun _ _ _ h => h) rfl ?_ hHeld1 ?_
  · intro W hS; go_simp
  simp only [Act.put, y1, y2, y3, y4, y5, y6, y7]
  refine tk (i := 1) (v := (.int .i64 (s.size : Int))) rfl (by kernel_rfl) (fun _ _ _ h => h) rfl ?_ hHeld1 ?_
  · intro W hS; go_simp
  simp only [Act.put, y1, y2, y3, y4, y5, y6, y7]
  refine tk (i := 3) (v := (.int .i64 (S : Int))) rfl (by kernel_rfl) (fun _ _ _ h => h) rfl ?_ hHeld1 ?_
  · intro W hS; have zg_0 : W.cell? ⟨w.heap.size, 0, none⟩ = some ((.int .i64 (S : Int))) := IHolds.cell (l := [(.int .i64 (S : Int)), (.slice qa ql qc), (.slice pa pl pc)]) (t := 42) (b := w.heap.size) (w := W) (hS) 0 (by simp); have zg_1 : W.cell? ⟨w.heap.size, 1, none⟩ = some ((.slice qa ql qc)) := IHolds.cell (l := [(.int .i64 (S : Int)), (.slice qa ql qc), (.slice pa pl pc)]) (t := 42) (b := w.heap.size) (w := W) (hS) 1 (by simp); have zg_2 : W.cell? ⟨w.heap.size, 2, none⟩ = some ((.slice pa pl pc)) := IHolds.cell (l := [(.int .i64 (S : Int)), (.slice qa ql qc), (.slice pa pl pc)]) (t := 42) (b := w.heap.size) (w := W) (hS) 2 (by simp); go_simp
  simp only [Act.put, y1, y2, y3, y4, y5, y6, y7]
  refine tk (i := 4) (v := (.bool false)) rfl (by kernel_rfl) (fun _ _ _ h => h) rfl ?_ hHeld1 ?_
  · intro W hS; go_simp
  simp only [Act.put, y1, y2, y3, y4, y5, y6, y7]
  refine tk (i := 5) (v := (.bool false)) rfl (by kernel_rfl) (fun _ _ _ h => h) rfl ?_ hHeld1 ?_
  · intro W hS; go_simp
  simp only [Act.put, y1, y2, y3, y4, y5, y6, y7]
  refine tkU (i := 6) rfl (by kernel_rfl) (fun _ _ _ h => h) rfl hHeld1 ?_
  simp only [Act.put, y1, y2, y3, y4, y5, y6, y7]
  refine tkU (i := 7) rfl (by kernel_rfl) (fun _ _ _ h => h) rfl hHeld1 ?_
  simp only [Act.put, y1, y2, y3, y4, y5, y6, y7]
  refine tkU (i := 8) rfl (by kernel_rfl) (fun _ _ _ h => h) rfl hHeld1 ?_
  simp only [Act.put, y1, y2, y3, y4, y5, y6, y7]
  refine tkU (i := 9) rfl (by kernel_rfl) (fun _ _ _ h => h) rfl hHeld1 ?_
  simp only [Act.put, y1, y2, y3, y4, y5, y6, y7]
  refine tk (i := 10) (v := (.bool false)) rfl (by kernel_rfl) (fun _ _ _ h => h) rfl ?_ hHeld1 ?_
  · intro W hS; go_simp
  simp only [Act.put, y1, y2, y3, y4, y5, y6, y7]
  refine tk (i := 11) (v := (.bool false)) rfl (by kernel_rfl) (fun _ _ _ h => h) rfl ?_ hHeld1 ?_
  · intro W hS; go_simp
  simp only [Act.put, y1, y2, y3, y4, y5, y6, y7]
  refine tkU (i := 12) rfl (by kernel_rfl) (fun _ _ _ h => h) rfl hHeld1 ?_
  simp only [Act.put, y1, y2, y3, y4, y5, y6, y7]
  refine tkU (i := 14) rfl (by kernel_rfl) (fun _ _ _ h => h) rfl hHeld1 ?_
  simp only [Act.put, y1, y2, y3, y4, y5, y6, y7]
  refine tkU (i := 13) rfl (by kernel_rfl) (fun _ _ _ h => h) rfl hHeld1 ?_
  simp only [Act.put, y1, y2, y3, y4, y5, y6, y7]
  refine tkU (i := 15) rfl (by kernel_rfl) (fun _ _ _ h => h) rfl hHeld1 ?_
  simp only [Act.put, y1, y2, y3, y4, y5, y6, y7]
  refine tkU (i := 16) rfl (by kernel_rfl) (fun _ _ _ h => h) rfl hHeld1 ?_
  simp only [Act.put, y1, y2, y3, y4, y5, y6, y7]
  refine tkU (i := 17) rfl (by kernel_rfl) (fun _ _ _ h => h) rfl hHeld1 ?_
  simp only [Act.put, y1, y2, y3, y4, y5, y6, y7]
  refine tk (i := 18) (v := (.bool false)) rfl (by kernel_rfl) (fun _ _ _ h => h) rfl ?_ hHeld1 ?_
  · intro W hS; go_simp
  simp only [Act.put, y1, y2, y3, y4, y5, y6, y7]
  refine tk (i := 19) (v := (.bool false)) rfl (by kernel_rfl) (fun _ _ _ h => h) rfl ?_ hHeld1 ?_
  · intro W hS; go_simp
  simp only [Act.put, y1, y2, y3, y4, y5, y6, y7]
  refine wpAnyH_done (by kernel_rfl) ?_ _
  clear hHeld1
  go_wp2_with fail
  go_ret
  exact ⟨rfl, B.out⟩
set_option maxRecDepth 100000 in
set_option maxHeartbeats 2000000 in
theorem isElem_zero {w : World} {q : Nat} {qa : Option Addr} {ql qc : Nat} (NQ : Hid (NumV w 65536 q (.slice qa ql qc))) {pa : Option Addr} {pl pc : Nat} {s : ByteArray} {N : Nat} (CR : Hid (∀ W, Calls Tryz.prog 20 #[.string s] W fun e w' => (∃ v, e = .returned v ∧ NumV w' 65536 N v) ∧ Below W.heap.size W w')) (hL : (dg 65536 N).length = 0) :
    Calls Tryz.prog 17 #[.agg #[.int .i64 (s.size : Int), .slice qa ql qc, .slice pa pl pc], .string s] w fun e w' => e = .returned (.bool false) ∧ Below w.heap.size w w' := by
  go_enter Tryz.func17, Tryz.ntmps17
  go_wp2_with fail
  obtain ⟨U1, hU1⟩ : ∃ X, X = (w.alloc (.cells #[(.int .i64 (s.size : Int)), (.slice qa ql qc), (.slice pa pl pc)] 42)) := ⟨_, rfl⟩
  have Jg : Hid (IHolds U1 (w.heap.size) 42 [(.int .i64 (s.size : Int)), (.slice qa ql qc), (.slice pa pl pc)]) := by
    have q := IHolds.new w 42 [(.int .i64 (s.size : Int)), (.slice qa ql qc), (.slice pa pl pc)]
    show IHolds _ _ _ _
    rw [hU1]
    exact q
  have B : Hid (Below w.heap.size w U1) := by
    show Below _ _ _
    rw [hU1]
    exact ((Below.refl _ w).alloc (Nat.le_refl _) _)
  rw [← hU1]
  have hb : Below w.heap.size w U1 := B.out
  replace NQ := aN NQ hb
  clear hb
  clear hU1
  have hb := dB U1
  replace B := aB B hb
  replace Jg := aJ Jg hb
  replace NQ := aN NQ hb
  clear hb
  refine wp_region_held_drew (S := fun W => (IHolds W (w.heap.size) 42 [(.int .i64 (s.size : Int)), (.slice qa ql qc), (.slice pa pl pc)])) (by kernel_rfl) Jg.out (fun hHeld1 => ?_)
  generalize U1.drew = U2 at *
  refine tk (i := 0) (v := (.string s)) rfl (by kernel_rfl) (fun _ _ _ h => h) rfl ?_ hHeld1 ?_
  · intro W hS; go_simp
  simp only [Act.put, y1, y2, y3, y4, y5, y6, y7]
  refine tk (i := 2) (v := .pointer (some ⟨w.heap.size, 0, none⟩)) rfl (by kernel_rfl) (fun _ _ _ h => h) rfl ?_ hHeld1 ?_
  · intro W hS; go_simp
  simp only [Act.put, y1, y2, y3, y4, y5, y6, y7]
  refine tk (i := 1) (v := (.int .i64 (s.size : Int))) rfl (by kernel_rfl) (fun _ _ _ h => h) rfl ?_ hHeld1 ?_
  · intro W hS; go_simp
  simp only [Act.put, y1, y2, y3, y4, y5, y6, y7]
  refine tk (i := 3) (v := (.int .i64 (s.size : Int))) rfl (by kernel_rfl) (fun _ _ _ h => h) rfl ?_ hHeld1 ?_
  · intro W hS; have zg_0 : W.cell? ⟨w.heap.size, 0, none⟩ = some ((.int .i64 (s.size : Int))) := IHolds.cell (l := [(.int .i64 (s.size : Int)), (.slice qa ql qc), (.slice pa pl pc)]) (t := 42) (b := w.heap.size) (w := W) (hS) 0 (by simp); have zg_1 : W.cell? ⟨w.heap.size, 1, none⟩ = some ((.slice qa ql qc)) := IHolds.cell (l := [(.int .i64 (s.size : Int)), (.slice qa ql qc), (.slice pa pl pc)]) (t := 42) (b := w.heap.size) (w := W) (hS) 1 (by simp); have zg_2 : W.cell? ⟨w.heap.size, 2, none⟩ = some ((.slice pa pl pc)) := IHolds.cell (l := [(.int .i64 (s.size : Int)), (.slice qa ql qc), (.slice pa pl pc)]) (t := 42) (b := w.heap.size) (w := W) (hS) 2 (by simp); go_simp
  simp only [Act.put, y1, y2, y3, y4, y5, y6, y7]
  refine tk (i := 4) (v := (.bool true)) rfl (by kernel_rfl) (fun _ _ _ h => h) rfl ?_ hHeld1 ?_
  · intro W hS; go_simp
  simp only [Act.put, y1, y2, y3, y4, y5, y6, y7]
  refine tk (i := 5) (v := (.bool true)) rfl (by kernel_rfl) (fun _ _ _ h => h) rfl ?_ hHeld1 ?_
  · intro W hS; go_simp
  simp only [Act.put, y1, y2, y3, y4, y5, y6, y7]
  refine tk (i := 6) (v := (.string s)) rfl (by kernel_rfl) (fun _ _ _ h => h) rfl ?_ hHeld1 ?_
  · intro W hS; go_simp
  simp only [Act.put, y1, y2, y3, y4, y5, y6, y7]
  refine wpAnyH_ready (rs := [7]) (by kernel_rfl) (by simp) ?_
  refine AllReadyH.cons rfl (fun K hK => ?_) AllReadyH.nil
  clear hHeld1
  go_simp
  refine (CR.out U2).mono ?_
  rintro e U3 ⟨⟨yr, rfl, hv⟩, hb⟩
  have Nyr : Hid (NumV U3 65536 (N) yr) := hv
  clear hv
  replace B := aB B hb
  replace Jg := aJ Jg hb
  replace NQ := aN NQ hb
  clear hb
  go_wp2_with fail
  refine hK.out _ _ (Jg.out) (fun hHeld2 => ?_)
  clear hK K
  try simp only [Act.put, y1, y2, y3, y4, y5, y6, y7]
  obtain ⟨yr_a, yr_l, yr_c, rfl⟩ := sN Nyr
  have hyl := NumV.len Nyr
  have hy0 : yr_l = 0 := by rw [hyl]; exact hL
  clear hyl
  refine tk (i := 8) (v := (.int .i64 (yr_l : Int))) rfl (by kernel_rfl) (fun _ _ _ h => h) rfl ?_ hHeld2 ?_
  · intro W hS; go_simp
  simp only [Act.put, y1, y2, y3, y4, y5, y6, y7]
  refine tk (i := 9) (v := (.bool false)) rfl (by kernel_rfl) (fun _ _ _ h => h) rfl ?_ hHeld2 ?_
  · intro W hS; go_simp
  simp only [Act.put, y1, y2, y3, y4, y5, y6, y7]
  refine tk (i := 10) (v := (.bool false)) rfl (by kernel_rfl) (fun _ _ _ h => h) rfl ?_ hHeld2 ?_
  · intro W hS; go_simp
  simp only [Act.put, y1, y2, y3, y4, y5, y6, y7]
  refine tk (i := 11) (v := (.bool false)) rfl (by kernel_rfl) (fun _ _ _ h => h) rfl ?_ hHeld2 ?_
  · intro W hS; go_simp
  simp only [Act.put, y1, y2, y3, y4, y5, y6, y7]
  refine tkU (i := 12) rfl (by kernel_rfl) (fun _ _ _ h => h) rfl hHeld2 ?_
  simp only [Act.put, y1, y2, y3, y4, y5, y6, y7]
  refine tkU (i := 14) rfl (by kernel_rfl) (fun _ _ _ h => h) rfl hHeld2 ?_
  simp only [Act.put, y1, y2, y3, y4, y5, y6, y7]
  refine tkU (i := 13) rfl (by kernel_rfl) (fun _ _ _ h => h) rfl hHeld2 ?_
  simp only [Act.put, y1, y2, y3, y4, y5, y6, y7]
  refine tkU (i := 15) rfl (by kernel_rfl) (fun _ _ _ h => h) rfl hHeld2 ?_
  simp only [Act.put, y1, y2, y3, y4, y5, y6, y7]
  refine tkU (i := 16) rfl (by kernel_rfl) (fun _ _ _ h => h) rfl hHeld2 ?_
  simp only [Act.put, y1, y2, y3, y4, y5, y6, y7]
  refine tkU (i := 17) rfl (by kernel_rfl) (fun _ _ _ h => h) rfl hHeld2 ?_
  simp only [Act.put, y1, y2, y3, y4, y5, y6, y7]
  refine tk (i := 18) (v := (.bool false)) rfl (by kernel_rfl) (fun _ _ _ h => h) rfl ?_ hHeld2 ?_
  · intro W hS; go_simp
  simp only [Act.put, y1, y2, y3, y4, y5, y6, y7]
  refine tk (i := 19) (v := (.bool false)) rfl (by kernel_rfl) (fun _ _ _ h => h) rfl ?_ hHeld2 ?_
  · intro W hS; go_simp
  simp only [Act.put, y1, y2, y3, y4, y5, y6, y7]
  refine wpAnyH_done (by kernel_rfl) ?_ _
  clear hHeld2
  go_wp2_with fail
  go_ret
  exact ⟨rfl, B.out⟩
set_option maxRecDepth 100000 in
set_option maxHeartbeats 2000000 in
theorem isElem_is {w : World} {q : Nat} {qa : Option Addr} {ql qc : Nat} (NQ : Hid (NumV w 65536 q (.slice qa ql qc))) {pa : Option Addr} {pl pc : Nat} {s : ByteArray} {N : Nat} {c : Int} {t : Bool} (CR : Hid (∀ W, Calls Tryz.prog 20 #[.string s] W fun e w' => (∃ v, e = .returned v ∧ NumV w' 65536 N v) ∧ Below W.heap.size W w')) (CC : Hid (∀ W v v', NumV W 65536 N v → NumV W 65536 q v' → Calls Tryz.prog 41 #[v, v'] W fun e w' => e = .returned (.int .i64 c) ∧ Below W.heap.size W w')) (hL : 0 < (dg 65536 N).length) (hc : decide (c ≤ 0) = t) :
    Calls Tryz.prog 17 #[.agg #[.int .i64 (s.size : Int), .slice qa ql qc, .slice pa pl pc], .string s] w fun e w' => e = .returned (.bool t) ∧ Below w.heap.size w w' := by
  go_enter Tryz.func17, Tryz.ntmps17
  go_wp2_with fail
  obtain ⟨U1, hU1⟩ : ∃ X, X = (w.alloc (.cells #[(.int .i64 (s.size : Int)), (.slice qa ql qc), (.slice pa pl pc)] 42)) := ⟨_, rfl⟩
  have Jg : Hid (IHolds U1 (w.heap.size) 42 [(.int .i64 (s.size : Int)), (.slice qa ql qc), (.slice pa pl pc)]) := by
    have q := IHolds.new w 42 [(.int .i64 (s.size : Int)), (.slice qa ql qc), (.slice pa pl pc)]
    show IHolds _ _ _ _
    rw [hU1]
    exact q
  have B : Hid (Below w.heap.size w U1) := by
    show Below _ _ _
    rw [hU1]
    exact ((Below.refl _ w).alloc (Nat.le_refl _) _)
  rw [← hU1]
  have hb : Below w.heap.size w U1 := B.out
  replace NQ := aN NQ hb
  clear hb
  clear hU1
  have hb := dB U1
  replace B := aB B hb
  replace Jg := aJ Jg hb
  replace NQ := aN NQ hb
  clear hb
  refine wp_region_held_drew (S := fun W => (IHolds W (w.heap.size) 42 [(.int .i64 (s.size : Int)), (.slice qa ql qc), (.slice pa pl pc)])) (by kernel_rfl) Jg.out (fun hHeld1 => ?_)
  generalize U1.drew = U2 at *
  refine tk (i := 0) (v := (.string s)) rfl (by kernel_rfl) (fun _ _ _ h => h) rfl ?_ hHeld1 ?_
  · intro W hS; go_simp
  simp only [Act.put, y1, y2, y3, y4, y5, y6, y7]
  refine tk (i := 2) (v := .pointer (some ⟨w.heap.size, 0, none⟩)) rfl (by kernel_rfl) (fun _ _ _ h => h) rfl ?_ hHeld1 ?_
  · intro W hS; go_simp
  simp only [Act.put, y1, y2, y3, y4, y5, y6, y7]
  refine tk (i := 1) (v := (.int .i64 (s.size : Int))) rfl (by kernel_rfl) (fun _ _ _ h => h) rfl ?_ hHeld1 ?_
  · intro W hS; go_simp
  simp only [Act.put, y1, y2, y3, y4, y5, y6, y7]
  refine tk (i := 3) (v := (.int .i64 (s.size : Int))) rfl (by kernel_rfl) (fun _ _ _ h => h) rfl ?_ hHeld1 ?_
  · intro W hS; have zg_0 : W.cell? ⟨w.heap.size, 0, none⟩ = some ((.int .i64 (s.size : Int))) := IHolds.cell (l := [(.int .i64 (s.size : Int)), (.slice qa ql qc), (.slice pa pl pc)]) (t := 42) (b := w.heap.size) (w := W) (hS) 0 (by simp); have zg_1 : W.cell? ⟨w.heap.size, 1, none⟩ = some ((.slice qa ql qc)) := IHolds.cell (l := [(.int .i64 (s.size : Int)), (.slice qa ql qc), (.slice pa pl pc)]) (t := 42) (b := w.heap.size) (w := W) (hS) 1 (by simp); have zg_2 : W.cell? ⟨w.heap.size, 2, none⟩ = some ((.slice pa pl pc)) := IHolds.cell (l := [(.int .i64 (s.size : Int)), (.slice qa ql qc), (.slice pa pl pc)]) (t := 42) (b := w.heap.size) (w := W) (hS) 2 (by simp); go_simp
  simp only [Act.put, y1, y2, y3, y4, y5, y6, y7]
  refine tk (i := 4) (v := (.bool true)) rfl (by kernel_rfl) (fun _ _ _ h => h) rfl ?_ hHeld1 ?_
  · intro W hS; go_simp
  simp only [Act.put, y1, y2, y3, y4, y5, y6, y7]
  refine tk (i := 5) (v := (.bool true)) rfl (by kernel_rfl) (fun _ _ _ h => h) rfl ?_ hHeld1 ?_
  · intro W hS; go_simp
  simp only [Act.put, y1, y2, y3, y4, y5, y6, y7]
  refine tk (i := 6) (v := (.string s)) rfl (by kernel_rfl) (fun _ _ _ h => h) rfl ?_ hHeld1 ?_
  · intro W hS; go_simp
  simp only [Act.put, y1, y2, y3, y4, y5, y6, y7]
  refine wpAnyH_ready (rs := [7]) (by kernel_rfl) (by simp) ?_
  refine AllReadyH.cons rfl (fun K hK => ?_) AllReadyH.nil
  clear hHeld1
  go_simp
  refine (CR.out U2).mono ?_
  rintro e U3 ⟨⟨yr, rfl, hv⟩, hb⟩
  have Nyr : Hid (NumV U3 65536 (N) yr) := hv
  clear hv
  replace B := aB B hb
  replace Jg := aJ Jg hb
  replace NQ := aN NQ hb
  clear hb
  go_wp2_with fail
  refine hK.out _ _ (Jg.out) (fun hHeld2 => ?_)
  clear hK K
  try simp only [Act.put, y1, y2, y3, y4, y5, y6, y7]
  obtain ⟨yr_a, yr_l, yr_c, rfl⟩ := sN Nyr
  have hyl := NumV.len Nyr
  have hy0 : 0 < yr_l := by rw [hyl]; exact hL
  have hy1 : (0 : Int) < (yr_l : Int) := by omega
  clear hyl
  refine tk (i := 8) (v := (.int .i64 (yr_l : Int))) rfl (by kernel_rfl) (fun _ _ _ h => h) rfl ?_ hHeld2 ?_
  · intro W hS; go_simp
  simp only [Act.put, y1, y2, y3, y4, y5, y6, y7]
  refine tk (i := 9) (v := (.bool true)) rfl (by kernel_rfl) (fun _ _ _ h => h) rfl ?_ hHeld2 ?_
  · intro W hS; go_simp
  simp only [Act.put, y1, y2, y3, y4, y5, y6, y7]
  refine tk (i := 10) (v := (.bool true)) rfl (by kernel_rfl) (fun _ _ _ h => h) rfl ?_ hHeld2 ?_
  · intro W hS; go_simp
  simp only [Act.put, y1, y2, y3, y4, y5, y6, y7]
  refine tk (i := 11) (v := (.bool true)) rfl (by kernel_rfl) (fun _ _ _ h => h) rfl ?_ hHeld2 ?_
  · intro W hS; go_simp
  simp only [Act.put, y1, y2, y3, y4, y5, y6, y7]
  refine tk (i := 12) (v := (.string s)) rfl (by kernel_rfl) (fun _ _ _ h => h) rfl ?_ hHeld2 ?_
  · intro W hS; go_simp
  simp only [Act.put, y1, y2, y3, y4, y5, y6, y7]
  refine tk (i := 14) (v := .pointer (some ⟨w.heap.size, 1, none⟩)) rfl (by kernel_rfl) (fun _ _ _ h => h) rfl ?_ hHeld2 ?_
  · intro W hS; go_simp
  simp only [Act.put, y1, y2, y3, y4, y5, y6, y7]
  refine tk (i := 15) (v := (.slice qa ql qc)) rfl (by kernel_rfl) (fun _ _ _ h => h) rfl ?_ hHeld2 ?_
  · intro W hS; have zg_0 : W.cell? ⟨w.heap.size, 0, none⟩ = some ((.int .i64 (s.size : Int))) := IHolds.cell (l := [(.int .i64 (s.size : Int)), (.slice qa ql qc), (.slice pa pl pc)]) (t := 42) (b := w.heap.size) (w := W) (hS) 0 (by simp); have zg_1 : W.cell? ⟨w.heap.size, 1, none⟩ = some ((.slice qa ql qc)) := IHolds.cell (l := [(.int .i64 (s.size : Int)), (.slice qa ql qc), (.slice pa pl pc)]) (t := 42) (b := w.heap.size) (w := W) (hS) 1 (by simp); have zg_2 : W.cell? ⟨w.heap.size, 2, none⟩ = some ((.slice pa pl pc)) := IHolds.cell (l := [(.int .i64 (s.size : Int)), (.slice qa ql qc), (.slice pa pl pc)]) (t := 42) (b := w.heap.size) (w := W) (hS) 2 (by simp); go_simp
  simp only [Act.put, y1, y2, y3, y4, y5, y6, y7]
  refine wpAnyH_ready (rs := [13]) (by kernel_rfl) (by simp) ?_
  refine AllReadyH.cons rfl (fun K hK => ?_) AllReadyH.nil
  clear hHeld2
  go_simp
  refine (CR.out U3).mono ?_
  rintro e U4 ⟨⟨ys, rfl, hv⟩, hb⟩
  have Nys : Hid (NumV U4 65536 (N) ys) := hv
  clear hv
  replace B := aB B hb
  replace Jg := aJ Jg hb
  replace NQ := aN NQ hb
  replace Nyr := aN Nyr hb
  clear hb
  go_wp2_with fail
  refine hK.out _ _ (Jg.out) (fun hHeld3 => ?_)
  clear hK K
  try simp only [Act.put, y1, y2, y3, y4, y5, y6, y7]
  refine wpAnyH_ready (rs := [16]) (by kernel_rfl) (by simp) ?_
  refine AllReadyH.cons rfl (fun K hK => ?_) AllReadyH.nil
  clear hHeld3
  go_simp
  refine (CC.out U4 ys (.slice qa ql qc) Nys.out NQ.out).mono ?_
  rintro e U5 ⟨rfl, hb⟩
  replace B := aB B hb
  replace Jg := aJ Jg hb
  replace NQ := aN NQ hb
  replace Nyr := aN Nyr hb
  replace Nys := aN Nys hb
  clear hb
  go_wp2_with fail
  refine hK.out _ _ (Jg.out) (fun hHeld4 => ?_)
  clear hK K
  try simp only [Act.put, y1, y2, y3, y4, y5, y6, y7]
  refine tk (i := 17) (v := (.bool t)) rfl (by kernel_rfl) (fun _ _ _ h => h) rfl ?_ hHeld4 ?_
  · intro W hS; go_simp
  simp only [Act.put, y1, y2, y3, y4, y5, y6, y7]
  refine tk (i := 18) (v := (.bool t)) rfl (by kernel_rfl) (fun _ _ _ h => h) rfl ?_ hHeld4 ?_
  · intro W hS; go_simp
  simp only [Act.put, y1, y2, y3, y4, y5, y6, y7]
  refine tk (i := 19) (v := (.bool t)) rfl (by kernel_rfl) (fun _ _ _ h => h) rfl ?_ hHeld4 ?_
  · intro W hS; go_simp
  simp only [Act.put, y1, y2, y3, y4, y5, y6, y7]
  refine wpAnyH_done (by kernel_rfl) ?_ _
  clear hHeld4
  go_wp2_with fail
  go_ret
  exact ⟨rfl, B.out⟩
end Go.Proofs.YtohpbclofcflaaaGreat
