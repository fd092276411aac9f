/- The walk of NatField. -/
import Derived.Test.YtnahindcgedbaabDoorFieldWalkA
set_option linter.unusedSimpArgs false
set_option linter.unusedVariables false
namespace Go.Proofs.YtnahindcgedbaabDoor
open Go.RowKit Go.Deep Go.PlainAid

set_option maxRecDepth 100000 in
set_option maxHeartbeats 8000000 in
theorem field_good_some {X1 X2 Y1 Y2 Z1 Z2 A1 A2 C1 C2 Q1 Q2 M1 M2 L1 L2 K1 K2 D1 D2 V1 V2 E1 E2 : ByteArray} {n : Int} {w : World} (C4 : Hid (∀ W g, IHolds W g 23 [.string X1, .string X2, .string Y1, .string Y2, .string Z1, .string Z2] → Calls Tryd.prog 4 #[.slice (some ⟨g, 0, none⟩) 3 3, .int .i64 600] W fun e w' => e = .returned (.bool true) ∧ Below W.heap.size W w'))
    (T1 : Hid (∀ W, Calls Tryd.prog 5 #[.agg #[.string X1, .string X2], .agg #[.string ⟨#[49]⟩, .string ⟨#[49]⟩]] W fun e w' => e = .returned (.agg #[.string X1, .string X2]) ∧ Below W.heap.size W w'))
    (P1 : Hid (∀ W, Calls Tryd.prog 6 #[.agg #[.string X1, .string X2], .agg #[.string ⟨#[48]⟩, .string ⟨#[49]⟩]] W fun e w' => e = .returned (.agg #[.string X1, .string X2]) ∧ Below W.heap.size W w'))
    (P2 : Hid (∀ W, Calls Tryd.prog 6 #[.agg #[.string ⟨#[49]⟩, .string ⟨#[49]⟩], .agg #[.string ⟨#[49]⟩, .string ⟨#[49]⟩]] W fun e w' => e = .returned (.agg #[.string ⟨#[50]⟩, .string ⟨#[49]⟩]) ∧ Below W.heap.size W w'))
    (PA : Hid (∀ W, Calls Tryd.prog 6 #[.agg #[.string X1, .string X2], .agg #[.string Y1, .string Y2]] W fun e w' => e = .returned (.agg #[.string A1, .string A2]) ∧ Below W.heap.size W w'))
    (PC : Hid (∀ W, Calls Tryd.prog 6 #[.agg #[.string A1, .string A2], .agg #[.string Z1, .string Z2]] W fun e w' => e = .returned (.agg #[.string C1, .string C2]) ∧ Below W.heap.size W w'))
    (PQ : Hid (∀ W, Calls Tryd.prog 6 #[.agg #[.string Y1, .string Y2], .agg #[.string Z1, .string Z2]] W fun e w' => e = .returned (.agg #[.string Q1, .string Q2]) ∧ Below W.heap.size W w'))
    (PC2 : Hid (∀ W, Calls Tryd.prog 6 #[.agg #[.string X1, .string X2], .agg #[.string Q1, .string Q2]] W fun e w' => e = .returned (.agg #[.string C1, .string C2]) ∧ Below W.heap.size W w'))
    (TM : Hid (∀ W, Calls Tryd.prog 5 #[.agg #[.string X1, .string X2], .agg #[.string Y1, .string Y2]] W fun e w' => e = .returned (.agg #[.string M1, .string M2]) ∧ Below W.heap.size W w'))
    (TL : Hid (∀ W, Calls Tryd.prog 5 #[.agg #[.string M1, .string M2], .agg #[.string Z1, .string Z2]] W fun e w' => e = .returned (.agg #[.string L1, .string L2]) ∧ Below W.heap.size W w'))
    (TK : Hid (∀ W, Calls Tryd.prog 5 #[.agg #[.string Y1, .string Y2], .agg #[.string Z1, .string Z2]] W fun e w' => e = .returned (.agg #[.string K1, .string K2]) ∧ Below W.heap.size W w'))
    (TL2 : Hid (∀ W, Calls Tryd.prog 5 #[.agg #[.string X1, .string X2], .agg #[.string K1, .string K2]] W fun e w' => e = .returned (.agg #[.string L1, .string L2]) ∧ Below W.heap.size W w'))
    (TD : Hid (∀ W, Calls Tryd.prog 5 #[.agg #[.string X1, .string X2], .agg #[.string Q1, .string Q2]] W fun e w' => e = .returned (.agg #[.string D1, .string D2]) ∧ Below W.heap.size W w'))
    (TV : Hid (∀ W, Calls Tryd.prog 5 #[.agg #[.string X1, .string X2], .agg #[.string Z1, .string Z2]] W fun e w' => e = .returned (.agg #[.string V1, .string V2]) ∧ Below W.heap.size W w'))
    (PD : Hid (∀ W, Calls Tryd.prog 6 #[.agg #[.string M1, .string M2], .agg #[.string V1, .string V2]] W fun e w' => e = .returned (.agg #[.string D1, .string D2]) ∧ Below W.heap.size W w'))
    (PA2 : Hid (∀ W, Calls Tryd.prog 6 #[.agg #[.string Y1, .string Y2], .agg #[.string X1, .string X2]] W fun e w' => e = .returned (.agg #[.string A1, .string A2]) ∧ Below W.heap.size W w'))
    (TM2 : Hid (∀ W, Calls Tryd.prog 5 #[.agg #[.string Y1, .string Y2], .agg #[.string X1, .string X2]] W fun e w' => e = .returned (.agg #[.string M1, .string M2]) ∧ Below W.heap.size W w'))
    (PE : Hid (∀ W, Calls Tryd.prog 6 #[.agg #[.string X1, .string X2], .agg #[.string Z1, .string Z2]] W fun e w' => e = .returned (.agg #[.string E1, .string E2]) ∧ Below W.heap.size W w'))
    (FM : Hid (∀ W, Calls Tryd.prog 7 #[.agg #[.string A1, .string A2], .agg #[.string Y1, .string Y2]] W fun e w' => e = .returned (.tuple #[.agg #[.string X1, .string X2], .int .i64 0]) ∧ Below W.heap.size W w'))
    (FO : Hid (∀ W, Calls Tryd.prog 8 #[.agg #[.string M1, .string M2], .agg #[.string Y1, .string Y2]] W fun e w' => e = .returned (.tuple #[.agg #[.string X1, .string X2], .int .i64 0]) ∧ Below W.heap.size W w'))
    (F1 : Hid (∀ W, Calls Tryd.prog 9 #[.agg #[.string X1, .string X2], .agg #[.string Y1, .string Y2]] W fun e w' => e = .returned (.tuple #[.int .i64 n, .int .i64 0]) ∧ Below W.heap.size W w'))
    (F2 : Hid (∀ W, Calls Tryd.prog 9 #[.agg #[.string E1, .string E2], .agg #[.string Q1, .string Q2]] W fun e w' => e = .returned (.tuple #[.int .i64 n, .int .i64 0]) ∧ Below W.heap.size W w'))
    (hy : (Y1.toList == [48]) = false) (hy2 : (Y1.toList != [48]) = true) (hq : (n = 0 ∧ X1 = Y1 ∧ X2 = Y2) ∨ (n ≠ 0 ∧ X1 ≠ Y1) ∨ (n ≠ 0 ∧ X1 = Y1 ∧ X2 ≠ Y2)) :
    Calls Tryd.prog 3 #[.agg #[.string X1, .string X2], .agg #[.string Y1, .string Y2], .agg #[.string Z1, .string Z2]] w fun e w' => e = .returned (.bool true) ∧ Below w.heap.size w w' := by
  go_enter Tryd.func3, Tryd.ntmps3
  go_wp2_with fail
  obtain ⟨U1, hU1⟩ : ∃ X, X = ((((w.alloc (.cells #[(.string X1), (.string X2)] 23)).alloc (.cells #[(.string Y1), (.string Y2)] 23)).alloc (.cells #[(.string Z1), (.string Z2)] 23)).alloc (.cells #[(.string X1), (.string X2), (.string Y1), (.string Y2), (.string Z1), (.string Z2)] 23)) := ⟨_, rfl⟩
  have Jx : Hid (IHolds U1 (w.heap.size) 23 [(.string X1), (.string X2)]) := by
    have q := IHolds.new w 23 [(.string X1), (.string X2)]
    show IHolds _ _ _ _
    rw [hU1]
    exact (((q.alloc _).alloc _).alloc _)
  have Jy : Hid (IHolds U1 (w.heap.size + 1) 23 [(.string Y1), (.string Y2)]) := by
    have q := IHolds.new (w.alloc (.cells #[(.string X1), (.string X2)] 23)) 23 [(.string Y1), (.string Y2)]
    simp only [World.size_alloc, Nat.add_assoc, Nat.reduceAdd] at q
    show IHolds _ _ _ _
    rw [hU1]
    exact ((q.alloc _).alloc _)
  have Jz : Hid (IHolds U1 (w.heap.size + 2) 23 [(.string Z1), (.string Z2)]) := by
    have q := IHolds.new ((w.alloc (.cells #[(.string X1), (.string X2)] 23)).alloc (.cells #[(.string Y1), (.string Y2)] 23)) 23 [(.string Z1), (.string Z2)]
    simp only [World.size_alloc, Nat.add_assoc, Nat.reduceAdd] at q
    show IHolds _ _ _ _
    rw [hU1]
    exact (q.alloc _)
  have Jg : Hid (IHolds U1 (w.heap.size + 3) 23 [(.string X1), (.string X2), (.string Y1), (.string Y2), (.string Z1), (.string Z2)]) := by
    have q := IHolds.new (((w.alloc (.cells #[(.string X1), (.string X2)] 23)).alloc (.cells #[(.string Y1), (.string Y2)] 23)).alloc (.cells #[(.string Z1), (.string Z2)] 23)) 23 [(.string X1), (.string X2), (.string Y1), (.string Y2), (.string Z1), (.string Z2)]
    simp only [World.size_alloc, Nat.add_assoc, Nat.reduceAdd] at q
    show IHolds _ _ _ _
    rw [hU1]
    exact q
  have B : Hid (Below w.heap.size w U1) := by
    show Below _ _ _
    rw [hU1]
    exact (((((Below.refl _ w).alloc (Nat.le_refl _) _).alloc (by simp only [World.size_alloc]; omega) _).alloc (by simp only [World.size_alloc]; omega) _).alloc (by simp only [World.size_alloc]; omega) _)
  rw [← hU1]
  clear hU1
  refine (C4.out U1 _ Jg.out).mono ?_
  rintro e U2 ⟨rfl, hb⟩
  replace B := aB B hb
  replace Jx := aJ Jx hb
  replace Jy := aJ Jy hb
  replace Jz := aJ Jz hb
  replace Jg := aJ Jg hb
  clear hb
  clear Jg
  have hb := nB U2 (.cells #[(.string ⟨#[49]⟩), (.string ⟨#[49]⟩)] 23)
  have Jo : Hid (IHolds (U2.alloc (.cells #[(.string ⟨#[49]⟩), (.string ⟨#[49]⟩)] 23)) U2.heap.size 23 [(.string ⟨#[49]⟩), (.string ⟨#[49]⟩)]) := IHolds.new _ _ _
  have ne_x_o := nJ Jx
  have ne_y_o := nJ Jy
  have ne_z_o := nJ Jz
  have ge_o : Hid (w.heap.size ≤ U2.heap.size) := B.out.size
  replace B := aB B hb
  replace Jx := aJ Jx hb
  replace Jy := aJ Jy hb
  replace Jz := aJ Jz hb
  clear hb
  go_wp2_with fail
  generalize (U2.alloc (.cells #[(.string ⟨#[49]⟩), (.string ⟨#[49]⟩)] 23)) = U3 at *
  generalize U2.heap.size = b4 at *
  have hb := dB U3
  replace B := aB B hb
  replace Jx := aJ Jx hb
  replace Jy := aJ Jy hb
  replace Jz := aJ Jz hb
  replace Jo := aJ Jo hb
  clear hb
  refine wp_region_held_drew (S := fun W => (IHolds W (w.heap.size) 23 [(.string X1), (.string X2)]) ∧ (IHolds W (b4) 23 [(.string ⟨#[49]⟩), (.string ⟨#[49]⟩)])) (by kernel_rfl) ⟨Jx.out, Jo.out⟩ (fun hHeld1 => ?_)
  generalize U3.drew = U5 at *
  refine tk (i := 0) (v := .agg #[(.string X1), (.string X2)]) rfl (by kernel_rfl) (fun _ _ _ h => h) rfl ?_ hHeld1 ?_
  · intro W hS; obtain ⟨zx_0, zx_1⟩ := c2 hS.1; go_simp
  simp only [Act.put, y1, y2, y3, y4, y5, y6, y7]
  refine tk (i := 1) (v := .agg #[(.string ⟨#[49]⟩), (.string ⟨#[49]⟩)]) rfl (by kernel_rfl) (fun _ _ _ h => h) rfl ?_ hHeld1 ?_
  · intro W hS; obtain ⟨zo_0, zo_1⟩ := c2 hS.2; go_simp
  simp only [Act.put, y1, y2, y3, y4, y5, y6, y7]
  refine tk (i := 3) (v := .agg #[(.string X1), (.string X2)]) rfl (by kernel_rfl) (fun _ _ _ h => h) rfl ?_ hHeld1 ?_
  · intro W hS; obtain ⟨zx_0, zx_1⟩ := c2 hS.1; go_simp
  simp only [Act.put, y1, y2, y3, y4, y5, y6, y7]
  refine wpAnyH_ready (rs := [2]) (by kernel_rfl) (by simp) ?_
  refine AllReadyH.cons rfl (fun K hK => ?_) AllReadyH.nil
  clear hHeld1
  go_simp
  refine (T1.out U5).mono ?_
  rintro e U6 ⟨rfl, hb⟩
  replace B := aB B hb
  replace Jx := aJ Jx hb
  replace Jy := aJ Jy hb
  replace Jz := aJ Jz hb
  replace Jo := aJ Jo hb
  clear hb
  go_wp2_with fail
  refine hK.out _ _ (⟨Jx.out, Jo.out⟩) (fun hHeld2 => ?_)
  clear hK K
  try simp only [Act.put, y1, y2, y3, y4, y5, y6, y7]
  refine tk (i := 4) (v := (.bool false)) rfl (by kernel_rfl) (fun _ _ _ h => h) rfl ?_ hHeld2 ?_
  · intro W hS; go_simp
  simp only [Act.put, y1, y2, y3, y4, y5, y6, y7]
  refine tk (i := 5) (v := (.bool false)) rfl (by kernel_rfl) (fun _ _ _ h => h) rfl ?_ hHeld2 ?_
  · intro W hS; go_simp
  simp only [Act.put, y1, y2, y3, y4, y5, y6, y7]
  refine tk (i := 6) (v := .agg #[(.string X1), (.string X2)]) rfl (by kernel_rfl) (fun _ _ _ h => h) rfl ?_ hHeld2 ?_
  · intro W hS; obtain ⟨zx_0, zx_1⟩ := c2 hS.1; go_simp
  simp only [Act.put, y1, y2, y3, y4, y5, y6, y7]
  refine tk (i := 7) (v := .agg #[(.string ⟨#[48]⟩), (.string ⟨#[49]⟩)]) rfl (by kernel_rfl) (fun _ _ _ h => h) rfl ?_ hHeld2 ?_
  · intro W hS; go_simp
  simp only [Act.put, y1, y2, y3, y4, y5, y6, y7]
  refine tk (i := 9) (v := .agg #[(.string X1), (.string X2)]) rfl (by kernel_rfl) (fun _ _ _ h => h) rfl ?_ hHeld2 ?_
  · intro W hS; obtain ⟨zx_0, zx_1⟩ := c2 hS.1; go_simp
  simp only [Act.put, y1, y2, y3, y4, y5, y6, y7]
  refine wpAnyH_ready (rs := [8]) (by kernel_rfl) (by simp) ?_
  refine AllReadyH.cons rfl (fun K hK => ?_) AllReadyH.nil
  clear hHeld2
  go_simp
  refine (P1.out U6).mono ?_
  rintro e U7 ⟨rfl, hb⟩
  replace B := aB B hb
  replace Jx := aJ Jx hb
  replace Jy := aJ Jy hb
  replace Jz := aJ Jz hb
  replace Jo := aJ Jo hb
  clear hb
  go_wp2_with fail
  refine hK.out _ _ (⟨Jx.out, Jo.out⟩) (fun hHeld3 => ?_)
  clear hK K
  try simp only [Act.put, y1, y2, y3, y4, y5, y6, y7]
  refine tk (i := 10) (v := (.bool false)) rfl (by kernel_rfl) (fun _ _ _ h => h) rfl ?_ hHeld3 ?_
  · intro W hS; go_simp
  simp only [Act.put, y1, y2, y3, y4, y5, y6, y7]
  refine tk (i := 11) (v := (.bool false)) rfl (by kernel_rfl) (fun _ _ _ h => h) rfl ?_ hHeld3 ?_
  · intro W hS; go_simp
  simp only [Act.put, y1, y2, y3, y4, y5, y6, y7]
  refine tk (i := 12) (v := (.bool false)) rfl (by kernel_rfl) (fun _ _ _ h => h) rfl ?_ hHeld3 ?_
  · intro W hS; go_simp
  simp only [Act.put, y1, y2, y3, y4, y5, y6, y7]
  refine tk (i := 13) (v := .agg #[(.string ⟨#[49]⟩), (.string ⟨#[49]⟩)]) rfl (by kernel_rfl) (fun _ _ _ h => h) rfl ?_ hHeld3 ?_
  · intro W hS; obtain ⟨zo_0, zo_1⟩ := c2 hS.2; go_simp
  simp only [Act.put, y1, y2, y3, y4, y5, y6, y7]
  refine tk (i := 14) (v := .agg #[(.string ⟨#[49]⟩), (.string ⟨#[49]⟩)]) rfl (by kernel_rfl) (fun _ _ _ h => h) rfl ?_ hHeld3 ?_
  · intro W hS; obtain ⟨zo_0, zo_1⟩ := c2 hS.2; go_simp
  simp only [Act.put, y1, y2, y3, y4, y5, y6, y7]
  refine tk (i := 16) (v := .agg #[(.string ⟨#[50]⟩), (.string ⟨#[49]⟩)]) rfl (by kernel_rfl) (fun _ _ _ h => h) rfl ?_ hHeld3 ?_
  · intro W hS; go_simp
  simp only [Act.put, y1, y2, y3, y4, y5, y6, y7]
  refine wpAnyH_ready (rs := [15]) (by kernel_rfl) (by simp) ?_
  refine AllReadyH.cons rfl (fun K hK => ?_) AllReadyH.nil
  clear hHeld3
  go_simp
  refine (P2.out U7).mono ?_
  rintro e U8 ⟨rfl, hb⟩
  replace B := aB B hb
  replace Jx := aJ Jx hb
  replace Jy := aJ Jy hb
  replace Jz := aJ Jz hb
  replace Jo := aJ Jo hb
  clear hb
  go_wp2_with fail
  refine hK.out _ _ (⟨Jx.out, Jo.out⟩) (fun hHeld4 => ?_)
  clear hK K
  try simp only [Act.put, y1, y2, y3, y4, y5, y6, y7]
  refine tk (i := 17) (v := (.bool false)) rfl (by kernel_rfl) (fun _ _ _ h => h) rfl ?_ hHeld4 ?_
  · intro W hS; go_simp
  simp only [Act.put, y1, y2, y3, y4, y5, y6, y7]
  refine tk (i := 18) (v := (.bool false)) rfl (by kernel_rfl) (fun _ _ _ h => h) rfl ?_ hHeld4 ?_
  · intro W hS; go_simp
  simp only [Act.put, y1, y2, y3, y4, y5, y6, y7]
  refine wpAnyH_done (by kernel_rfl) ?_ _
  clear hHeld4
  clear Jo
  go_wp2_with fail
  have hb := dB U8
  replace B := aB B hb
  replace Jx := aJ Jx hb
  replace Jy := aJ Jy hb
  replace Jz := aJ Jz hb
  clear hb
  refine wp_region_held_drew (S := fun W => (IHolds W (w.heap.size) 23 [(.string X1), (.string X2)]) ∧ (IHolds W (w.heap.size + 1) 23 [(.string Y1), (.string Y2)]) ∧ (IHolds W (w.heap.size + 2) 23 [(.string Z1), (.string Z2)])) (by kernel_rfl) ⟨Jx.out, Jy.out, Jz.out⟩ (fun hHeld5 => ?_)
  generalize U8.drew = U9 at *
  refine tk (i := 0) (v := .agg #[(.string X1), (.string X2)]) rfl (by kernel_rfl) (fun _ _ _ h => h) rfl ?_ hHeld5 ?_
  · intro W hS; obtain ⟨zx_0, zx_1⟩ := c2 hS.1; go_simp
  simp only [Act.put, y1, y2, y3, y4, y5, y6, y7]
  refine tk (i := 1) (v := .agg #[(.string Y1), (.string Y2)]) rfl (by kernel_rfl) (fun _ _ _ h => h) rfl ?_ hHeld5 ?_
  · intro W hS; obtain ⟨zy_0, zy_1⟩ := c2 hS.2.1; go_simp
  simp only [Act.put, y1, y2, y3, y4, y5, y6, y7]
  refine tk (i := 3) (v := .agg #[(.string Z1), (.string Z2)]) rfl (by kernel_rfl) (fun _ _ _ h => h) rfl ?_ hHeld5 ?_
  · intro W hS; obtain ⟨zz_0, zz_1⟩ := c2 hS.2.2; go_simp
  simp only [Act.put, y1, y2, y3, y4, y5, y6, y7]
  refine tk (i := 5) (v := .agg #[(.string X1), (.string X2)]) rfl (by kernel_rfl) (fun _ _ _ h => h) rfl ?_ hHeld5 ?_
  · intro W hS; obtain ⟨zx_0, zx_1⟩ := c2 hS.1; go_simp
  simp only [Act.put, y1, y2, y3, y4, y5, y6, y7]
  refine tk (i := 6) (v := .agg #[(.string Y1), (.string Y2)]) rfl (by kernel_rfl) (fun _ _ _ h => h) rfl ?_ hHeld5 ?_
  · intro W hS; obtain ⟨zy_0, zy_1⟩ := c2 hS.2.1; go_simp
  simp only [Act.put, y1, y2, y3, y4, y5, y6, y7]
  refine tk (i := 7) (v := .agg #[(.string Z1), (.string Z2)]) rfl (by kernel_rfl) (fun _ _ _ h => h) rfl ?_ hHeld5 ?_
  · intro W hS; obtain ⟨zz_0, zz_1⟩ := c2 hS.2.2; go_simp
  simp only [Act.put, y1, y2, y3, y4, y5, y6, y7]
  refine wpAnyH_ready (rs := [2]) (by kernel_rfl) (by simp) ?_
  refine AllReadyH.cons rfl (fun K hK => ?_) AllReadyH.nil
  clear hHeld5
  go_simp
  refine (PA.out U9).mono ?_
  rintro e U10 ⟨rfl, hb⟩
  replace B := aB B hb
  replace Jx := aJ Jx hb
  replace Jy := aJ Jy hb
  replace Jz := aJ Jz hb
  clear hb
  go_wp2_with fail
  refine hK.out _ _ (⟨Jx.out, Jy.out, Jz.out⟩) (fun hHeld6 => ?_)
  clear hK K
  try simp only [Act.put, y1, y2, y3, y4, y5, y6, y7]
  refine wpAnyH_ready (rs := [4]) (by kernel_rfl) (by simp) ?_
  refine AllReadyH.cons rfl (fun K hK => ?_) AllReadyH.nil
  clear hHeld6
  go_simp
  refine (PC.out U10).mono ?_
  rintro e U11 ⟨rfl, hb⟩
  replace B := aB B hb
  replace Jx := aJ Jx hb
  replace Jy := aJ Jy hb
  replace Jz := aJ Jz hb
  clear hb
  go_wp2_with fail
  refine hK.out _ _ (⟨Jx.out, Jy.out, Jz.out⟩) (fun hHeld7 => ?_)
  clear hK K
  try simp only [Act.put, y1, y2, y3, y4, y5, y6, y7]
  refine wpAnyH_ready (rs := [8]) (by kernel_rfl) (by simp) ?_
  refine AllReadyH.cons rfl (fun K hK => ?_) AllReadyH.nil
  clear hHeld7
  go_simp
  refine (PQ.out U11).mono ?_
  rintro e U12 ⟨rfl, hb⟩
  replace B := aB B hb
  replace Jx := aJ Jx hb
  replace Jy := aJ Jy hb
  replace Jz := aJ Jz hb
  clear hb
  go_wp2_with fail
  refine hK.out _ _ (⟨Jx.out, Jy.out, Jz.out⟩) (fun hHeld8 => ?_)
  clear hK K
  try simp only [Act.put, y1, y2, y3, y4, y5, y6, y7]
  refine wpAnyH_ready (rs := [9]) (by kernel_rfl) (by simp) ?_
  refine AllReadyH.cons rfl (fun K hK => ?_) AllReadyH.nil
  clear hHeld8
  go_simp
  refine (PC2.out U12).mono ?_
  rintro e U13 ⟨rfl, hb⟩
  replace B := aB B hb
  replace Jx := aJ Jx hb
  replace Jy := aJ Jy hb
  replace Jz := aJ Jz hb
  clear hb
  go_wp2_with fail
  refine hK.out _ _ (⟨Jx.out, Jy.out, Jz.out⟩) (fun hHeld9 => ?_)
  clear hK K
  try simp only [Act.put, y1, y2, y3, y4, y5, y6, y7]
  refine tk (i := 10) (v := (.bool false)) rfl (by kernel_rfl) (fun _ _ _ h => h) rfl ?_ hHeld9 ?_
  · intro W hS; go_simp
  simp only [Act.put, y1, y2, y3, y4, y5, y6, y7]
  refine tk (i := 11) (v := (.bool false)) rfl (by kernel_rfl) (fun _ _ _ h => h) rfl ?_ hHeld9 ?_
  · intro W hS; go_simp
  simp only [Act.put, y1, y2, y3, y4, y5, y6, y7]
  refine tk (i := 12) (v := .agg #[(.string X1), (.string X2)]) rfl (by kernel_rfl) (fun _ _ _ h => h) rfl ?_ hHeld9 ?_
  · intro W hS; obtain ⟨zx_0, zx_1⟩ := c2 hS.1; go_simp
  simp only [Act.put, y1, y2, y3, y4, y5, y6, y7]
  refine tk (i := 13) (v := .agg #[(.string Y1), (.string Y2)]) rfl (by kernel_rfl) (fun _ _ _ h => h) rfl ?_ hHeld9 ?_
  · intro W hS; obtain ⟨zy_0, zy_1⟩ := c2 hS.2.1; go_simp
  simp only [Act.put, y1, y2, y3, y4, y5, y6, y7]
  refine tk (i := 15) (v := .agg #[(.string Z1), (.string Z2)]) rfl (by kernel_rfl) (fun _ _ _ h => h) rfl ?_ hHeld9 ?_
  · intro W hS; obtain ⟨zz_0, zz_1⟩ := c2 hS.2.2; go_simp
  simp only [Act.put, y1, y2, y3, y4, y5, y6, y7]
  refine tk (i := 17) (v := .agg #[(.string X1), (.string X2)]) rfl (by kernel_rfl) (fun _ _ _ h => h) rfl ?_ hHeld9 ?_
  · intro W hS; obtain ⟨zx_0, zx_1⟩ := c2 hS.1; go_simp
  simp only [Act.put, y1, y2, y3, y4, y5, y6, y7]
  refine tk (i := 18) (v := .agg #[(.string Y1), (.string Y2)]) rfl (by kernel_rfl) (fun _ _ _ h => h) rfl ?_ hHeld9 ?_
  · intro W hS; obtain ⟨zy_0, zy_1⟩ := c2 hS.2.1; go_simp
  simp only [Act.put, y1, y2, y3, y4, y5, y6, y7]
  refine tk (i := 19) (v := .agg #[(.string Z1), (.string Z2)]) rfl (by kernel_rfl) (fun _ _ _ h => h) rfl ?_ hHeld9 ?_
  · intro W hS; obtain ⟨zz_0, zz_1⟩ := c2 hS.2.2; go_simp
  simp only [Act.put, y1, y2, y3, y4, y5, y6, y7]
  refine wpAnyH_ready (rs := [14]) (by kernel_rfl) (by simp) ?_
  refine AllReadyH.cons rfl (fun K hK => ?_) AllReadyH.nil
  clear hHeld9
  go_simp
  refine (TM.out U13).mono ?_
  rintro e U14 ⟨rfl, hb⟩
  replace B := aB B hb
  replace Jx := aJ Jx hb
  replace Jy := aJ Jy hb
  replace Jz := aJ Jz hb
  clear hb
  go_wp2_with fail
  refine hK.out _ _ (⟨Jx.out, Jy.out, Jz.out⟩) (fun hHeld10 => ?_)
  clear hK K
  try simp only [Act.put, y1, y2, y3, y4, y5, y6, y7]
  refine wpAnyH_ready (rs := [16]) (by kernel_rfl) (by simp) ?_
  refine AllReadyH.cons rfl (fun K hK => ?_) AllReadyH.nil
  clear hHeld10
  go_simp
  refine (TL.out U14).mono ?_
  rintro e U15 ⟨rfl, hb⟩
  replace B := aB B hb
  replace Jx := aJ Jx hb
  replace Jy := aJ Jy hb
  replace Jz := aJ Jz hb
  clear hb
  go_wp2_with fail
  refine hK.out _ _ (⟨Jx.out, Jy.out, Jz.out⟩) (fun hHeld11 => ?_)
  clear hK K
  try simp only [Act.put, y1, y2, y3, y4, y5, y6, y7]
  refine wpAnyH_ready (rs := [20]) (by kernel_rfl) (by simp) ?_
  refine AllReadyH.cons rfl (fun K hK => ?_) AllReadyH.nil
  clear hHeld11
  go_simp
  refine (TK.out U15).mono ?_
  rintro e U16 ⟨rfl, hb⟩
  replace B := aB B hb
  replace Jx := aJ Jx hb
  replace Jy := aJ Jy hb
  replace Jz := aJ Jz hb
  clear hb
  go_wp2_with fail
  refine hK.out _ _ (⟨Jx.out, Jy.out, Jz.out⟩) (fun hHeld12 => ?_)
  clear hK K
  try simp only [Act.put, y1, y2, y3, y4, y5, y6, y7]
  refine wpAnyH_ready (rs := [21]) (by kernel_rfl) (by simp) ?_
  refine AllReadyH.cons rfl (fun K hK => ?_) AllReadyH.nil
  clear hHeld12
  go_simp
  refine (TL2.out U16).mono ?_
  rintro e U17 ⟨rfl, hb⟩
  replace B := aB B hb
  replace Jx := aJ Jx hb
  replace Jy := aJ Jy hb
  replace Jz := aJ Jz hb
  clear hb
  go_wp2_with fail
  refine hK.out _ _ (⟨Jx.out, Jy.out, Jz.out⟩) (fun hHeld13 => ?_)
  clear hK K
  try simp only [Act.put, y1, y2, y3, y4, y5, y6, y7]
  refine tk (i := 22) (v := (.bool false)) rfl (by kernel_rfl) (fun _ _ _ h => h) rfl ?_ hHeld13 ?_
  · intro W hS; go_simp
  simp only [Act.put, y1, y2, y3, y4, y5, y6, y7]
  refine tk (i := 23) (v := (.bool false)) rfl (by kernel_rfl) (fun _ _ _ h => h) rfl ?_ hHeld13 ?_
  · intro W hS; go_simp
  simp only [Act.put, y1, y2, y3, y4, y5, y6, y7]
  refine tk (i := 24) (v := (.bool false)) rfl (by kernel_rfl) (fun _ _ _ h => h) rfl ?_ hHeld13 ?_
  · intro W hS; go_simp
  simp only [Act.put, y1, y2, y3, y4, y5, y6, y7]
  refine tk (i := 25) (v := .agg #[(.string X1), (.string X2)]) rfl (by kernel_rfl) (fun _ _ _ h => h) rfl ?_ hHeld13 ?_
  · intro W hS; obtain ⟨zx_0, zx_1⟩ := c2 hS.1; go_simp
  simp only [Act.put, y1, y2, y3, y4, y5, y6, y7]
  refine tk (i := 26) (v := .agg #[(.string Y1), (.string Y2)]) rfl (by kernel_rfl) (fun _ _ _ h => h) rfl ?_ hHeld13 ?_
  · intro W hS; obtain ⟨zy_0, zy_1⟩ := c2 hS.2.1; go_simp
  simp only [Act.put, y1, y2, y3, y4, y5, y6, y7]
  refine tk (i := 27) (v := .agg #[(.string Z1), (.string Z2)]) rfl (by kernel_rfl) (fun _ _ _ h => h) rfl ?_ hHeld13 ?_
  · intro W hS; obtain ⟨zz_0, zz_1⟩ := c2 hS.2.2; go_simp
  simp only [Act.put, y1, y2, y3, y4, y5, y6, y7]
  refine tk (i := 30) (v := .agg #[(.string X1), (.string X2)]) rfl (by kernel_rfl) (fun _ _ _ h => h) rfl ?_ hHeld13 ?_
  · intro W hS; obtain ⟨zx_0, zx_1⟩ := c2 hS.1; go_simp
  simp only [Act.put, y1, y2, y3, y4, y5, y6, y7]
  refine tk (i := 31) (v := .agg #[(.string Y1), (.string Y2)]) rfl (by kernel_rfl) (fun _ _ _ h => h) rfl ?_ hHeld13 ?_
  · intro W hS; obtain ⟨zy_0, zy_1⟩ := c2 hS.2.1; go_simp
  simp only [Act.put, y1, y2, y3, y4, y5, y6, y7]
  refine tk (i := 33) (v := .agg #[(.string X1), (.string X2)]) rfl (by kernel_rfl) (fun _ _ _ h => h) rfl ?_ hHeld13 ?_
  · intro W hS; obtain ⟨zx_0, zx_1⟩ := c2 hS.1; go_simp
  simp only [Act.put, y1, y2, y3, y4, y5, y6, y7]
  refine tk (i := 34) (v := .agg #[(.string Z1), (.string Z2)]) rfl (by kernel_rfl) (fun _ _ _ h => h) rfl ?_ hHeld13 ?_
  · intro W hS; obtain ⟨zz_0, zz_1⟩ := c2 hS.2.2; go_simp
  simp only [Act.put, y1, y2, y3, y4, y5, y6, y7]
  refine wpAnyH_ready (rs := [28]) (by kernel_rfl) (by simp) ?_
  refine AllReadyH.cons rfl (fun K hK => ?_) AllReadyH.nil
  clear hHeld13
  go_simp
  refine (PQ.out U17).mono ?_
  rintro e U18 ⟨rfl, hb⟩
  replace B := aB B hb
  replace Jx := aJ Jx hb
  replace Jy := aJ Jy hb
  replace Jz := aJ Jz hb
  clear hb
  go_wp2_with fail
  refine hK.out _ _ (⟨Jx.out, Jy.out, Jz.out⟩) (fun hHeld14 => ?_)
  clear hK K
  try simp only [Act.put, y1, y2, y3, y4, y5, y6, y7]
  refine wpAnyH_ready (rs := [29]) (by kernel_rfl) (by simp) ?_
  refine AllReadyH.cons rfl (fun K hK => ?_) AllReadyH.nil
  clear hHeld14
  go_simp
  refine (TD.out U18).mono ?_
  rintro e U19 ⟨rfl, hb⟩
  replace B := aB B hb
  replace Jx := aJ Jx hb
  replace Jy := aJ Jy hb
  replace Jz := aJ Jz hb
  clear hb
  go_wp2_with fail
  refine hK.out _ _ (⟨Jx.out, Jy.out, Jz.out⟩) (fun hHeld15 => ?_)
  clear hK K
  try simp only [Act.put, y1, y2, y3, y4, y5, y6, y7]
  refine wpAnyH_ready (rs := [32]) (by kernel_rfl) (by simp) ?_
  refine AllReadyH.cons rfl (fun K hK => ?_) AllReadyH.nil
  clear hHeld15
  go_simp
  refine (TM.out U19).mono ?_
  rintro e U20 ⟨rfl, hb⟩
  replace B := aB B hb
  replace Jx := aJ Jx hb
  replace Jy := aJ Jy hb
  replace Jz := aJ Jz hb
  clear hb
  go_wp2_with fail
  refine hK.out _ _ (⟨Jx.out, Jy.out, Jz.out⟩) (fun hHeld16 => ?_)
  clear hK K
  try simp only [Act.put, y1, y2, y3, y4, y5, y6, y7]
  refine wpAnyH_ready (rs := [35]) (by kernel_rfl) (by simp) ?_
  refine AllReadyH.cons rfl (fun K hK => ?_) AllReadyH.nil
  clear hHeld16
  go_simp
  refine (TV.out U20).mono ?_
  rintro e U21 ⟨rfl, hb⟩
  replace B := aB B hb
  replace Jx := aJ Jx hb
  replace Jy := aJ Jy hb
  replace Jz := aJ Jz hb
  clear hb
  go_wp2_with fail
  refine hK.out _ _ (⟨Jx.out, Jy.out, Jz.out⟩) (fun hHeld17 => ?_)
  clear hK K
  try simp only [Act.put, y1, y2, y3, y4, y5, y6, y7]
  refine wpAnyH_ready (rs := [36]) (by kernel_rfl) (by simp) ?_
  refine AllReadyH.cons rfl (fun K hK => ?_) AllReadyH.nil
  clear hHeld17
  go_simp
  refine (PD.out U21).mono ?_
  rintro e U22 ⟨rfl, hb⟩
  replace B := aB B hb
  replace Jx := aJ Jx hb
  replace Jy := aJ Jy hb
  replace Jz := aJ Jz hb
  clear hb
  go_wp2_with fail
  refine hK.out _ _ (⟨Jx.out, Jy.out, Jz.out⟩) (fun hHeld18 => ?_)
  clear hK K
  try simp only [Act.put, y1, y2, y3, y4, y5, y6, y7]
  refine tk (i := 37) (v := (.bool false)) rfl (by kernel_rfl) (fun _ _ _ h => h) rfl ?_ hHeld18 ?_
  · intro W hS; go_simp
  simp only [Act.put, y1, y2, y3, y4, y5, y6, y7]
  refine tk (i := 38) (v := (.bool false)) rfl (by kernel_rfl) (fun _ _ _ h => h) rfl ?_ hHeld18 ?_
  · intro W hS; go_simp
  simp only [Act.put, y1, y2, y3, y4, y5, y6, y7]
  refine wpAnyH_done (by kernel_rfl) ?_ _
  clear hHeld18
  go_wp2_with fail
  have hb := dB U22
  replace B := aB B hb
  replace Jx := aJ Jx hb
  replace Jy := aJ Jy hb
  replace Jz := aJ Jz hb
  clear hb
  refine wp_region_held_drew (S := fun W => (IHolds W (w.heap.size) 23 [(.string X1), (.string X2)]) ∧ (IHolds W (w.heap.size + 1) 23 [(.string Y1), (.string Y2)])) (by kernel_rfl) ⟨Jx.out, Jy.out⟩ (fun hHeld19 => ?_)
  generalize U22.drew = U23 at *
  refine tk (i := 0) (v := .agg #[(.string X1), (.string X2)]) rfl (by kernel_rfl) (fun _ _ _ h => h) rfl ?_ hHeld19 ?_
  · intro W hS; obtain ⟨zx_0, zx_1⟩ := c2 hS.1; go_simp
  simp only [Act.put, y1, y2, y3, y4, y5, y6, y7]
  refine tk (i := 1) (v := .agg #[(.string Y1), (.string Y2)]) rfl (by kernel_rfl) (fun _ _ _ h => h) rfl ?_ hHeld19 ?_
  · intro W hS; obtain ⟨zy_0, zy_1⟩ := c2 hS.2; go_simp
  simp only [Act.put, y1, y2, y3, y4, y5, y6, y7]
  refine tk (i := 3) (v := .agg #[(.string Y1), (.string Y2)]) rfl (by kernel_rfl) (fun _ _ _ h => h) rfl ?_ hHeld19 ?_
  · intro W hS; obtain ⟨zy_0, zy_1⟩ := c2 hS.2; go_simp
  simp only [Act.put, y1, y2, y3, y4, y5, y6, y7]
  refine tk (i := 4) (v := .agg #[(.string X1), (.string X2)]) rfl (by kernel_rfl) (fun _ _ _ h => h) rfl ?_ hHeld19 ?_
  · intro W hS; obtain ⟨zx_0, zx_1⟩ := c2 hS.1; go_simp
  simp only [Act.put, y1, y2, y3, y4, y5, y6, y7]
  refine wpAnyH_ready (rs := [2]) (by kernel_rfl) (by simp) ?_
  refine AllReadyH.cons rfl (fun K hK => ?_) AllReadyH.nil
  clear hHeld19
  go_simp
  refine (PA.out U23).mono ?_
  rintro e U24 ⟨rfl, hb⟩
  replace B := aB B hb
  replace Jx := aJ Jx hb
  replace Jy := aJ Jy hb
  replace Jz := aJ Jz hb
  clear hb
  go_wp2_with fail
  refine hK.out _ _ (⟨Jx.out, Jy.out⟩) (fun hHeld20 => ?_)
  clear hK K
  try simp only [Act.put, y1, y2, y3, y4, y5, y6, y7]
  refine wpAnyH_ready (rs := [5]) (by kernel_rfl) (by simp) ?_
  refine AllReadyH.cons rfl (fun K hK => ?_) AllReadyH.nil
  clear hHeld20
  go_simp
  refine (PA2.out U24).mono ?_
  rintro e U25 ⟨rfl, hb⟩
  replace B := aB B hb
  replace Jx := aJ Jx hb
  replace Jy := aJ Jy hb
  replace Jz := aJ Jz hb
  clear hb
  go_wp2_with fail
  refine hK.out _ _ (⟨Jx.out, Jy.out⟩) (fun hHeld21 => ?_)
  clear hK K
  try simp only [Act.put, y1, y2, y3, y4, y5, y6, y7]
  refine tk (i := 6) (v := (.bool false)) rfl (by kernel_rfl) (fun _ _ _ h => h) rfl ?_ hHeld21 ?_
  · intro W hS; go_simp
  simp only [Act.put, y1, y2, y3, y4, y5, y6, y7]
  refine tk (i := 7) (v := (.bool false)) rfl (by kernel_rfl) (fun _ _ _ h => h) rfl ?_ hHeld21 ?_
  · intro W hS; go_simp
  simp only [Act.put, y1, y2, y3, y4, y5, y6, y7]
  refine tk (i := 8) (v := .agg #[(.string X1), (.string X2)]) rfl (by kernel_rfl) (fun _ _ _ h => h) rfl ?_ hHeld21 ?_
  · intro W hS; obtain ⟨zx_0, zx_1⟩ := c2 hS.1; go_simp
  simp only [Act.put, y1, y2, y3, y4, y5, y6, y7]
  refine tk (i := 9) (v := .agg #[(.string Y1), (.string Y2)]) rfl (by kernel_rfl) (fun _ _ _ h => h) rfl ?_ hHeld21 ?_
  · intro W hS; obtain ⟨zy_0, zy_1⟩ := c2 hS.2; go_simp
  simp only [Act.put, y1, y2, y3, y4, y5, y6, y7]
  refine tk (i := 11) (v := .agg #[(.string Y1), (.string Y2)]) rfl (by kernel_rfl) (fun _ _ _ h => h) rfl ?_ hHeld21 ?_
  · intro W hS; obtain ⟨zy_0, zy_1⟩ := c2 hS.2; go_simp
  simp only [Act.put, y1, y2, y3, y4, y5, y6, y7]
  refine tk (i := 12) (v := .agg #[(.string X1), (.string X2)]) rfl (by kernel_rfl) (fun _ _ _ h => h) rfl ?_ hHeld21 ?_
  · intro W hS; obtain ⟨zx_0, zx_1⟩ := c2 hS.1; go_simp
  simp only [Act.put, y1, y2, y3, y4, y5, y6, y7]
  refine wpAnyH_ready (rs := [10]) (by kernel_rfl) (by simp) ?_
  refine AllReadyH.cons rfl (fun K hK => ?_) AllReadyH.nil
  clear hHeld21
  go_simp
  refine (TM.out U25).mono ?_
  rintro e U26 ⟨rfl, hb⟩
  replace B := aB B hb
  replace Jx := aJ Jx hb
  replace Jy := aJ Jy hb
  replace Jz := aJ Jz hb
  clear hb
  go_wp2_with fail
  refine hK.out _ _ (⟨Jx.out, Jy.out⟩) (fun hHeld22 => ?_)
  clear hK K
  try simp only [Act.put, y1, y2, y3, y4, y5, y6, y7]
  refine wpAnyH_ready (rs := [13]) (by kernel_rfl) (by simp) ?_
  refine AllReadyH.cons rfl (fun K hK => ?_) AllReadyH.nil
  clear hHeld22
  go_simp
  refine (TM2.out U26).mono ?_
  rintro e U27 ⟨rfl, hb⟩
  replace B := aB B hb
  replace Jx := aJ Jx hb
  replace Jy := aJ Jy hb
  replace Jz := aJ Jz hb
  clear hb
  go_wp2_with fail
  refine hK.out _ _ (⟨Jx.out, Jy.out⟩) (fun hHeld23 => ?_)
  clear hK K
  try simp only [Act.put, y1, y2, y3, y4, y5, y6, y7]
  refine tk (i := 14) (v := (.bool false)) rfl (by kernel_rfl) (fun _ _ _ h => h) rfl ?_ hHeld23 ?_
  · intro W hS; go_simp
  simp only [Act.put, y1, y2, y3, y4, y5, y6, y7]
  refine tk (i := 15) (v := (.bool false)) rfl (by kernel_rfl) (fun _ _ _ h => h) rfl ?_ hHeld23 ?_
  · intro W hS; go_simp
  simp only [Act.put, y1, y2, y3, y4, y5, y6, y7]
  refine wpAnyH_done (by kernel_rfl) ?_ _
  clear hHeld23
  go_upto_region 10 with fail
  go_cut [8, 9] (fun v8 v9 wx => ∃ b8, v8 = .pointer (some ⟨b8, 0, none⟩) ∧ v9 = .int .i64 0 ∧ IHolds wx b8 23 [.string X1, .string X2] ∧ w.heap.size ≠ b8 ∧ w.heap.size + 1 ≠ b8 ∧ w.heap.size + 2 ≠ b8 ∧ w.heap.size ≤ b8 ∧ IHolds wx w.heap.size 23 [.string X1, .string X2] ∧ IHolds wx (w.heap.size + 1) 23 [.string Y1, .string Y2] ∧ IHolds wx (w.heap.size + 2) 23 [.string Z1, .string Z2] ∧ Below w.heap.size w wx)
  case first =>
    have hb := dB U27
    replace B := aB B hb
    replace Jx := aJ Jx hb
    replace Jy := aJ Jy hb
    replace Jz := aJ Jz hb
    clear hb
    refine wp_region_held_drew (S := fun W => (IHolds W (w.heap.size) 23 [(.string X1), (.string X2)]) ∧ (IHolds W (w.heap.size + 1) 23 [(.string Y1), (.string Y2)])) (by kernel_rfl) ⟨Jx.out, Jy.out⟩ (fun hHeld24 => ?_)
    generalize U27.drew = U28 at *
    refine tk (i := 0) (v := .agg #[(.string X1), (.string X2)]) rfl (by kernel_rfl) (fun _ _ _ h => h) rfl ?_ hHeld24 ?_
    · intro W hS; obtain ⟨zx_0, zx_1⟩ := c2 hS.1; go_simp
    simp only [Act.put, y1, y2, y3, y4, y5, y6, y7]
    refine tk (i := 1) (v := .agg #[(.string Y1), (.string Y2)]) rfl (by kernel_rfl) (fun _ _ _ h => h) rfl ?_ hHeld24 ?_
    · intro W hS; obtain ⟨zy_0, zy_1⟩ := c2 hS.2; go_simp
    simp only [Act.put, y1, y2, y3, y4, y5, y6, y7]
    refine tk (i := 3) (v := .agg #[(.string Y1), (.string Y2)]) rfl (by kernel_rfl) (fun _ _ _ h => h) rfl ?_ hHeld24 ?_
    · intro W hS; obtain ⟨zy_0, zy_1⟩ := c2 hS.2; go_simp
    simp only [Act.put, y1, y2, y3, y4, y5, y6, y7]
    refine wpAnyH_ready (rs := [2, 8]) (by kernel_rfl) (by simp) ?_
    refine AllReadyH.cons rfl (fun K hK => ?_) (AllReadyH.cons rfl (fun K hK => ?_) AllReadyH.nil)
    · clear hHeld24
      go_simp
      refine (PA.out U28).mono ?_
      rintro e U29 ⟨rfl, hb⟩
      replace B := aB B hb
      replace Jx := aJ Jx hb
      replace Jy := aJ Jy hb
      replace Jz := aJ Jz hb
      clear hb
      go_wp2_with fail
      refine hK.out _ _ (⟨Jx.out, Jy.out⟩) (fun hHeld25 => ?_)
      clear hK K
      try simp only [Act.put, y1, y2, y3, y4, y5, y6, y7]
      refine wpAnyH_ready (rs := [4, 8]) (by kernel_rfl) (by simp) ?_
      refine AllReadyH.cons rfl (fun K hK => ?_) (AllReadyH.cons rfl (fun K hK => ?_) AllReadyH.nil)
      · clear hHeld25
        go_simp
        refine (FM.out U29).mono ?_
        rintro e U30 ⟨rfl, hb⟩
        replace B := aB B hb
        replace Jx := aJ Jx hb
        replace Jy := aJ Jy hb
        replace Jz := aJ Jz hb
        clear hb
        go_wp2_with fail
        refine hK.out _ _ (⟨Jx.out, Jy.out⟩) (fun hHeld26 => ?_)
        clear hK K
        try simp only [Act.put, y1, y2, y3, y4, y5, y6, y7]
        refine tk (i := 5) (v := .tuple #[.agg #[(.string X1), (.string X2)], .int .i64 0]) rfl (by kernel_rfl) (fun _ _ _ h => h) rfl ?_ hHeld26 ?_
        · intro W hS; go_simp
        simp only [Act.put, y1, y2, y3, y4, y5, y6, y7]
        refine tk (i := 6) (v := .agg #[(.string X1), (.string X2)]) rfl (by kernel_rfl) (fun _ _ _ h => h) rfl ?_ hHeld26 ?_
        · intro W hS; go_simp
        simp only [Act.put, y1, y2, y3, y4, y5, y6, y7]
        refine tk (i := 7) (v := (.int .i64 0)) rfl (by kernel_rfl) (fun _ _ _ h => h) rfl ?_ hHeld26 ?_
        · intro W hS; go_simp
        simp only [Act.put, y1, y2, y3, y4, y5, y6, y7]
        refine wpAnyH_ready (rs := [8]) (by kernel_rfl) (by simp) ?_
        refine AllReadyH.cons rfl (fun K hK => ?_) AllReadyH.nil
        clear hHeld26
        go_simp
        have ne_x_b := nJ Jx
        have ne_y_b := nJ Jy
        have ne_z_b := nJ Jz
        have ge_b : Hid (w.heap.size ≤ U30.heap.size) := B.out.size
        have hb := nB U30 (.cells #[(.string ⟨#[]⟩), (.string ⟨#[]⟩)] 23)
        have Jb : Hid (IHolds (U30.alloc (.cells #[(.string ⟨#[]⟩), (.string ⟨#[]⟩)] 23)) U30.heap.size 23 [(.string ⟨#[]⟩), (.string ⟨#[]⟩)]) := IHolds.new _ _ _
        replace B := aB B hb
        replace Jx := aJ Jx hb
        replace Jy := aJ Jy hb
        replace Jz := aJ Jz hb
        clear hb
        generalize (U30.alloc (.cells #[(.string ⟨#[]⟩), (.string ⟨#[]⟩)] 23)) = U31 at *
        generalize U30.heap.size = b32 at *
        refine hK.out _ _ (⟨Jx.out, Jy.out⟩) (fun hHeld27 => ?_)
        clear hK K
        try simp only [Act.put, y1, y2, y3, y4, y5, y6, y7]
        refine wpAnyH_ready (rs := [9]) (by kernel_rfl) (by simp) ?_
        refine AllReadyH.cons rfl (fun K hK => ?_) AllReadyH.nil
        clear hHeld27
        obtain ⟨zb_0, zb_1⟩ := cJ Jb
        have f0 := fJ Jb
        have hBut : But (b32) U31 ((U31.setCell ⟨b32, 0, none⟩ (.string X1)).setCell ⟨b32, 1, none⟩ (.string X2)) := (((But.refl _ U31).setCell 0 (.string X1)).setCell 1 (.string X2))
        have I4 : Hid (IHolds _ (b32) 23 [(.string X1), (.string X2)]) := ((Jb.out.set 0 (.string X1)).set 1 (.string X2))
        replace B : Hid (Below w.heap.size w ((U31.setCell ⟨b32, 0, none⟩ (.string X1)).setCell ⟨b32, 1, none⟩ (.string X2))) := ((B.out.setCell (by first | exact Nat.le_refl _ | exact ge_b.out | (show w.heap.size ≤ b32; omega)) _).setCell (by first | exact Nat.le_refl _ | exact ge_b.out | (show w.heap.size ≤ b32; omega)) _)
        replace Jx := tJ Jx hBut (by first | omega | exact ne_x_b.out | exact fun h => ne_b_x.out h.symm)
        replace Jy := tJ Jy hBut (by first | omega | exact ne_y_b.out | exact fun h => ne_b_y.out h.symm)
        replace Jz := tJ Jz hBut (by first | omega | exact ne_z_b.out | exact fun h => ne_b_z.out h.symm)
        replace Jb := I4
        clear I4 hBut
        go_simp
        try go_wp2_with fail
        clear zb_0 zb_1
        clear f0
        generalize ((U31.setCell ⟨b32, 0, none⟩ (.string X1)).setCell ⟨b32, 1, none⟩ (.string X2)) = U33 at *
        refine hK.out _ _ (⟨Jx.out, Jy.out⟩) (fun hHeld28 => ?_)
        clear hK K
        try simp only [Act.put, y1, y2, y3, y4, y5, y6, y7]
        refine tk (i := 10) (v := (.int .i64 0)) rfl (by kernel_rfl) (fun _ _ _ h => h) rfl ?_ hHeld28 ?_
        · intro W hS; go_simp
        simp only [Act.put, y1, y2, y3, y4, y5, y6, y7]
        refine wpAnyH_done (by kernel_rfl) ?_ _
        clear hHeld28
        go_wp2_with fail
        go_meet
        case rel => exact ⟨_, rfl, rfl, Jb.out, ne_x_b.out, ne_y_b.out, ne_z_b.out, ge_b.out, Jx.out, Jy.out, Jz.out, B.out⟩
      · clear hHeld25
        go_simp
        have ne_x_b := nJ Jx
        have ne_y_b := nJ Jy
        have ne_z_b := nJ Jz
        have ge_b : Hid (w.heap.size ≤ U29.heap.size) := B.out.size
        have hb := nB U29 (.cells #[(.string ⟨#[]⟩), (.string ⟨#[]⟩)] 23)
        have Jb : Hid (IHolds (U29.alloc (.cells #[(.string ⟨#[]⟩), (.string ⟨#[]⟩)] 23)) U29.heap.size 23 [(.string ⟨#[]⟩), (.string ⟨#[]⟩)]) := IHolds.new _ _ _
        replace B := aB B hb
        replace Jx := aJ Jx hb
        replace Jy := aJ Jy hb
        replace Jz := aJ Jz hb
        clear hb
        generalize (U29.alloc (.cells #[(.string ⟨#[]⟩), (.string ⟨#[]⟩)] 23)) = U34 at *
        generalize U29.heap.size = b35 at *
        refine hK.out _ _ (⟨Jx.out, Jy.out⟩) (fun hHeld29 => ?_)
        clear hK K
        try simp only [Act.put, y1, y2, y3, y4, y5, y6, y7]
        refine wpAnyH_ready (rs := [4]) (by kernel_rfl) (by simp) ?_
        refine AllReadyH.cons rfl (fun K hK => ?_) AllReadyH.nil
        clear hHeld29
        go_simp
        refine (FM.out U34).mono ?_
        rintro e U36 ⟨rfl, hb⟩
        replace B := aB B hb
        replace Jx := aJ Jx hb
        replace Jy := aJ Jy hb
        replace Jz := aJ Jz hb
        replace Jb := aJ Jb hb
        clear hb
        go_wp2_with fail
        refine hK.out _ _ (⟨Jx.out, Jy.out⟩) (fun hHeld30 => ?_)
        clear hK K
        try simp only [Act.put, y1, y2, y3, y4, y5, y6, y7]
        refine tk (i := 5) (v := .tuple #[.agg #[(.string X1), (.string X2)], .int .i64 0]) rfl (by kernel_rfl) (fun _ _ _ h => h) rfl ?_ hHeld30 ?_
        · intro W hS; go_simp
        simp only [Act.put, y1, y2, y3, y4, y5, y6, y7]
        refine tk (i := 6) (v := .agg #[(.string X1), (.string X2)]) rfl (by kernel_rfl) (fun _ _ _ h => h) rfl ?_ hHeld30 ?_
        · intro W hS; go_simp
        simp only [Act.put, y1, y2, y3, y4, y5, y6, y7]
        refine tk (i := 7) (v := (.int .i64 0)) rfl (by kernel_rfl) (fun _ _ _ h => h) rfl ?_ hHeld30 ?_
        · intro W hS; go_simp
        simp only [Act.put, y1, y2, y3, y4, y5, y6, y7]
        refine wpAnyH_ready (rs := [9]) (by kernel_rfl) (by simp) ?_
        refine AllReadyH.cons rfl (fun K hK => ?_) AllReadyH.nil
        clear hHeld30
        obtain ⟨zb_0, zb_1⟩ := cJ Jb
        have f0 := fJ Jb
        have hBut : But (b35) U36 ((U36.setCell ⟨b35, 0, none⟩ (.string X1)).setCell ⟨b35, 1, none⟩ (.string X2)) := (((But.refl _ U36).setCell 0 (.string X1)).setCell 1 (.string X2))
        have I4 : Hid (IHolds _ (b35) 23 [(.string X1), (.string X2)]) := ((Jb.out.set 0 (.string X1)).set 1 (.string X2))
        replace B : Hid (Below w.heap.size w ((U36.setCell ⟨b35, 0, none⟩ (.string X1)).setCell ⟨b35, 1, none⟩ (.string X2))) := ((B.out.setCell (by first | exact Nat.le_refl _ | exact ge_b.out | (show w.heap.size ≤ b35; omega)) _).setCell (by first | exact Nat.le_refl _ | exact ge_b.out | (show w.heap.size ≤ b35; omega)) _)
        replace Jx := tJ Jx hBut (by first | omega | exact ne_x_b.out | exact fun h => ne_b_x.out h.symm)
        replace Jy := tJ Jy hBut (by first | omega | exact ne_y_b.out | exact fun h => ne_b_y.out h.symm)
        replace Jz := tJ Jz hBut (by first | omega | exact ne_z_b.out | exact fun h => ne_b_z.out h.symm)
        replace Jb := I4
        clear I4 hBut
        go_simp
        try go_wp2_with fail
        clear zb_0 zb_1
        clear f0
        generalize ((U36.setCell ⟨b35, 0, none⟩ (.string X1)).setCell ⟨b35, 1, none⟩ (.string X2)) = U37 at *
        refine hK.out _ _ (⟨Jx.out, Jy.out⟩) (fun hHeld31 => ?_)
        clear hK K
        try simp only [Act.put, y1, y2, y3, y4, y5, y6, y7]
        refine tk (i := 10) (v := (.int .i64 0)) rfl (by kernel_rfl) (fun _ _ _ h => h) rfl ?_ hHeld31 ?_
        · intro W hS; go_simp
        simp only [Act.put, y1, y2, y3, y4, y5, y6, y7]
        refine wpAnyH_done (by kernel_rfl) ?_ _
        clear hHeld31
        go_wp2_with fail
        go_meet
        case rel => exact ⟨_, rfl, rfl, Jb.out, ne_x_b.out, ne_y_b.out, ne_z_b.out, ge_b.out, Jx.out, Jy.out, Jz.out, B.out⟩
    · clear hHeld24
      go_simp
      have ne_x_b := nJ Jx
      have ne_y_b := nJ Jy
      have ne_z_b := nJ Jz
      have ge_b : Hid (w.heap.size ≤ U28.heap.size) := B.out.size
      have hb := nB U28 (.cells #[(.string ⟨#[]⟩), (.string ⟨#[]⟩)] 23)
      have Jb : Hid (IHolds (U28.alloc (.cells #[(.string ⟨#[]⟩), (.string ⟨#[]⟩)] 23)) U28.heap.size 23 [(.string ⟨#[]⟩), (.string ⟨#[]⟩)]) := IHolds.new _ _ _
      replace B := aB B hb
      replace Jx := aJ Jx hb
      replace Jy := aJ Jy hb
      replace Jz := aJ Jz hb
      clear hb
      generalize (U28.alloc (.cells #[(.string ⟨#[]⟩), (.string ⟨#[]⟩)] 23)) = U38 at *
      generalize U28.heap.size = b39 at *
      refine hK.out _ _ (⟨Jx.out, Jy.out⟩) (fun hHeld32 => ?_)
      clear hK K
      try simp only [Act.put, y1, y2, y3, y4, y5, y6, y7]
      refine wpAnyH_ready (rs := [2]) (by kernel_rfl) (by simp) ?_
      refine AllReadyH.cons rfl (fun K hK => ?_) AllReadyH.nil
      clear hHeld32
      go_simp
      refine (PA.out U38).mono ?_
      rintro e U40 ⟨rfl, hb⟩
      replace B := aB B hb
      replace Jx := aJ Jx hb
      replace Jy := aJ Jy hb
      replace Jz := aJ Jz hb
      replace Jb := aJ Jb hb
      clear hb
      go_wp2_with fail
      refine hK.out _ _ (⟨Jx.out, Jy.out⟩) (fun hHeld33 => ?_)
      clear hK K
      try simp only [Act.put, y1, y2, y3, y4, y5, y6, y7]
      refine wpAnyH_ready (rs := [4]) (by kernel_rfl) (by simp) ?_
      refine AllReadyH.cons rfl (fun K hK => ?_) AllReadyH.nil
      clear hHeld33
      go_simp
      refine (FM.out U40).mono ?_
      rintro e U41 ⟨rfl, hb⟩
      replace B := aB B hb
      replace Jx := aJ Jx hb
      replace Jy := aJ Jy hb
      replace Jz := aJ Jz hb
      replace Jb := aJ Jb hb
      clear hb
      go_wp2_with fail
      refine hK.out _ _ (⟨Jx.out, Jy.out⟩) (fun hHeld34 => ?_)
      clear hK K
      try simp only [Act.put, y1, y2, y3, y4, y5, y6, y7]
      refine tk (i := 5) (v := .tuple #[.agg #[(.string X1), (.string X2)], .int .i64 0]) rfl (by kernel_rfl) (fun _ _ _ h => h) rfl ?_ hHeld34 ?_
      · intro W hS; go_simp
      simp only [Act.put, y1, y2, y3, y4, y5, y6, y7]
      refine tk (i := 6) (v := .agg #[(.string X1), (.string X2)]) rfl (by kernel_rfl) (fun _ _ _ h => h) rfl ?_ hHeld34 ?_
      · intro W hS; go_simp
      simp only [Act.put, y1, y2, y3, y4, y5, y6, y7]
      refine tk (i := 7) (v := (.int .i64 0)) rfl (by kernel_rfl) (fun _ _ _ h => h) rfl ?_ hHeld34 ?_
      · intro W hS; go_simp
      simp only [Act.put, y1, y2, y3, y4, y5, y6, y7]
      refine wpAnyH_ready (rs := [9]) (by kernel_rfl) (by simp) ?_
      refine AllReadyH.cons rfl (fun K hK => ?_) AllReadyH.nil
      clear hHeld34
      obtain ⟨zb_0, zb_1⟩ := cJ Jb
      have f0 := fJ Jb
      have hBut : But (b39) U41 ((U41.setCell ⟨b39, 0, none⟩ (.string X1)).setCell ⟨b39, 1, none⟩ (.string X2)) := (((But.refl _ U41).setCell 0 (.string X1)).setCell 1 (.string X2))
      have I4 : Hid (IHolds _ (b39) 23 [(.string X1), (.string X2)]) := ((Jb.out.set 0 (.string X1)).set 1 (.string X2))
      replace B : Hid (Below w.heap.size w ((U41.setCell ⟨b39, 0, none⟩ (.string X1)).setCell ⟨b39, 1, none⟩ (.string X2))) := ((B.out.setCell (by first | exact Nat.le_refl _ | exact ge_b.out | (show w.heap.size ≤ b39; omega)) _).setCell (by first | exact Nat.le_refl _ | exact ge_b.out | (show w.heap.size ≤ b39; omega)) _)
      replace Jx := tJ Jx hBut (by first | omega | exact ne_x_b.out | exact fun h => ne_b_x.out h.symm)
      replace Jy := tJ Jy hBut (by first | omega | exact ne_y_b.out | exact fun h => ne_b_y.out h.symm)
      replace Jz := tJ Jz hBut (by first | omega | exact ne_z_b.out | exact fun h => ne_b_z.out h.symm)
      replace Jb := I4
      clear I4 hBut
      go_simp
      try go_wp2_with fail
      clear zb_0 zb_1
      clear f0
      generalize ((U41.setCell ⟨b39, 0, none⟩ (.string X1)).setCell ⟨b39, 1, none⟩ (.string X2)) = U42 at *
      refine hK.out _ _ (⟨Jx.out, Jy.out⟩) (fun hHeld35 => ?_)
      clear hK K
      try simp only [Act.put, y1, y2, y3, y4, y5, y6, y7]
      refine tk (i := 10) (v := (.int .i64 0)) rfl (by kernel_rfl) (fun _ _ _ h => h) rfl ?_ hHeld35 ?_
      · intro W hS; go_simp
      simp only [Act.put, y1, y2, y3, y4, y5, y6, y7]
      refine wpAnyH_done (by kernel_rfl) ?_ _
      clear hHeld35
      go_wp2_with fail
      go_meet
      case rel => exact ⟨_, rfl, rfl, Jb.out, ne_x_b.out, ne_y_b.out, ne_z_b.out, ge_b.out, Jx.out, Jy.out, Jz.out, B.out⟩
  case rest =>
    obtain ⟨b8, rfl, rfl, jb, e1, e2, e3, e4, jx, jy, jz, bb⟩ := hcut
    clear B Jx Jy Jz
    have Jx : Hid (IHolds wc (w.heap.size) 23 [(.string X1), (.string X2)]) := jx
    have Jy : Hid (IHolds wc (w.heap.size + 1) 23 [(.string Y1), (.string Y2)]) := jy
    have Jz : Hid (IHolds wc (w.heap.size + 2) 23 [(.string Z1), (.string Z2)]) := jz
    have Jb : Hid (IHolds wc (b8) 23 [(.string X1), (.string X2)]) := jb
    have ne_x_b : Hid (w.heap.size ≠ b8) := e1
    have ne_y_b : Hid (w.heap.size + 1 ≠ b8) := e2
    have ne_z_b : Hid (w.heap.size + 2 ≠ b8) := e3
    have ge_b : Hid (w.heap.size ≤ b8) := e4
    have B : Hid (Below w.heap.size w wc) := bb
    clear jb e1 e2 e3 e4 jx jy jz bb
    obtain ⟨zb_0, zb_1⟩ := cJ Jb
    obtain ⟨zx_0, zx_1⟩ := cJ Jx
    obtain ⟨zy_0, zy_1⟩ := cJ Jy
    go_wp2_with fail
    clear zb_0 zb_1 zx_0 zx_1 zy_0 zy_1
    have hb := dB wc
    replace B := aB B hb
    replace Jx := aJ Jx hb
    replace Jy := aJ Jy hb
    replace Jz := aJ Jz hb
    replace Jb := aJ Jb hb
    clear hb
    refine wp_region_held_drew (S := fun W => (IHolds W (w.heap.size) 23 [(.string X1), (.string X2)]) ∧ (IHolds W (w.heap.size + 1) 23 [(.string Y1), (.string Y2)])) (by kernel_rfl) ⟨Jx.out, Jy.out⟩ (fun hHeld36 => ?_)
    generalize wc.drew = U43 at *
    refine tk (i := 0) (v := .agg #[(.string X1), (.string X2)]) rfl (by kernel_rfl) (fun _ _ _ h => h) rfl ?_ hHeld36 ?_
    · intro W hS; obtain ⟨zx_0, zx_1⟩ := c2 hS.1; go_simp
    simp only [Act.put, y1, y2, y3, y4, y5, y6, y7]
    refine tk (i := 1) (v := .agg #[(.string Y1), (.string Y2)]) rfl (by kernel_rfl) (fun _ _ _ h => h) rfl ?_ hHeld36 ?_
    · intro W hS; obtain ⟨zy_0, zy_1⟩ := c2 hS.2; go_simp
    simp only [Act.put, y1, y2, y3, y4, y5, y6, y7]
    refine tk (i := 3) (v := .agg #[(.string Y1), (.string Y2)]) rfl (by kernel_rfl) (fun _ _ _ h => h) rfl ?_ hHeld36 ?_
    · intro W hS; obtain ⟨zy_0, zy_1⟩ := c2 hS.2; go_simp
    simp only [Act.put, y1, y2, y3, y4, y5, y6, y7]
    refine wpAnyH_ready (rs := [2]) (by kernel_rfl) (by simp) ?_
    refine AllReadyH.cons rfl (fun K hK => ?_) AllReadyH.nil
    clear hHeld36
    go_simp
    refine (TM.out U43).mono ?_
    rintro e U44 ⟨rfl, hb⟩
    replace B := aB B hb
    replace Jx := aJ Jx hb
    replace Jy := aJ Jy hb
    replace Jz := aJ Jz hb
    replace Jb := aJ Jb hb
    clear hb
    go_wp2_with fail
    refine hK.out _ _ (⟨Jx.out, Jy.out⟩) (fun hHeld37 => ?_)
    clear hK K
    try simp only [Act.put, y1, y2, y3, y4, y5, y6, y7]
    refine wpAnyH_ready (rs := [4]) (by kernel_rfl) (by simp) ?_
    refine AllReadyH.cons rfl (fun K hK => ?_) AllReadyH.nil
    clear hHeld37
    go_simp
    refine (FO.out U44).mono ?_
    rintro e U45 ⟨rfl, hb⟩
    replace B := aB B hb
    replace Jx := aJ Jx hb
    replace Jy := aJ Jy hb
    replace Jz := aJ Jz hb
    replace Jb := aJ Jb hb
    clear hb
    go_wp2_with fail
    refine hK.out _ _ (⟨Jx.out, Jy.out⟩) (fun hHeld38 => ?_)
    clear hK K
    try simp only [Act.put, y1, y2, y3, y4, y5, y6, y7]
    refine tk (i := 5) (v := .tuple #[.agg #[(.string X1), (.string X2)], .int .i64 0]) rfl (by kernel_rfl) (fun _ _ _ h => h) rfl ?_ hHeld38 ?_
    · intro W hS; go_simp
    simp only [Act.put, y1, y2, y3, y4, y5, y6, y7]
    refine tk (i := 6) (v := .agg #[(.string X1), (.string X2)]) rfl (by kernel_rfl) (fun _ _ _ h => h) rfl ?_ hHeld38 ?_
    · intro W hS; go_simp
    simp only [Act.put, y1, y2, y3, y4, y5, y6, y7]
    refine tk (i := 7) (v := (.int .i64 0)) rfl (by kernel_rfl) (fun _ _ _ h => h) rfl ?_ hHeld38 ?_
    · intro W hS; go_simp
    simp only [Act.put, y1, y2, y3, y4, y5, y6, y7]
    refine wpAnyH_ready (rs := [8]) (by kernel_rfl) (by simp) ?_
    refine AllReadyH.cons rfl (fun K hK => ?_) AllReadyH.nil
    clear hHeld38
    obtain ⟨zb_0, zb_1⟩ := cJ Jb
    have f0 := fJ Jb
    have hBut : But (b8) U45 ((U45.setCell ⟨b8, 0, none⟩ (.string X1)).setCell ⟨b8, 1, none⟩ (.string X2)) := (((But.refl _ U45).setCell 0 (.string X1)).setCell 1 (.string X2))
    have I4 : Hid (IHolds _ (b8) 23 [(.string X1), (.string X2)]) := ((Jb.out.set 0 (.string X1)).set 1 (.string X2))
    replace B : Hid (Below w.heap.size w ((U45.setCell ⟨b8, 0, none⟩ (.string X1)).setCell ⟨b8, 1, none⟩ (.string X2))) := ((B.out.setCell (by first | exact Nat.le_refl _ | exact ge_b.out | (show w.heap.size ≤ b8; omega)) _).setCell (by first | exact Nat.le_refl _ | exact ge_b.out | (show w.heap.size ≤ b8; omega)) _)
    replace Jx := tJ Jx hBut (by first | omega | exact ne_x_b.out | exact fun h => ne_b_x.out h.symm)
    replace Jy := tJ Jy hBut (by first | omega | exact ne_y_b.out | exact fun h => ne_b_y.out h.symm)
    replace Jz := tJ Jz hBut (by first | omega | exact ne_z_b.out | exact fun h => ne_b_z.out h.symm)
    replace Jb := I4
    clear I4 hBut
    go_simp
    try go_wp2_with fail
    clear zb_0 zb_1
    clear f0
    generalize ((U45.setCell ⟨b8, 0, none⟩ (.string X1)).setCell ⟨b8, 1, none⟩ (.string X2)) = U46 at *
    refine hK.out _ _ (⟨Jx.out, Jy.out⟩) (fun hHeld39 => ?_)
    clear hK K
    try simp only [Act.put, y1, y2, y3, y4, y5, y6, y7]
    refine tk (i := 9) (v := (.int .i64 0)) rfl (by kernel_rfl) (fun _ _ _ h => h) rfl ?_ hHeld39 ?_
    · intro W hS; go_simp
    simp only [Act.put, y1, y2, y3, y4, y5, y6, y7]
    refine wpAnyH_done (by kernel_rfl) ?_ _
    clear hHeld39
    obtain ⟨zb_0, zb_1⟩ := cJ Jb
    obtain ⟨zx_0, zx_1⟩ := cJ Jx
    obtain ⟨zy_0, zy_1⟩ := cJ Jy
    go_wp2_with fail
    clear zb_0 zb_1 zx_0 zx_1 zy_0 zy_1
    refine (F1.out U46).mono ?_
    rintro e U47 ⟨rfl, hb⟩
    replace B := aB B hb
    replace Jx := aJ Jx hb
    replace Jy := aJ Jy hb
    replace Jz := aJ Jz hb
    replace Jb := aJ Jb hb
    clear hb
    go_wp2_with fail
    have hb := dB U47
    replace B := aB B hb
    replace Jx := aJ Jx hb
    replace Jy := aJ Jy hb
    replace Jz := aJ Jz hb
    replace Jb := aJ Jb hb
    clear hb
    refine wp_region_held_drew (S := fun W => (IHolds W (w.heap.size) 23 [(.string X1), (.string X2)]) ∧ (IHolds W (w.heap.size + 1) 23 [(.string Y1), (.string Y2)]) ∧ (IHolds W (w.heap.size + 2) 23 [(.string Z1), (.string Z2)])) (by kernel_rfl) ⟨Jx.out, Jy.out, Jz.out⟩ (fun hHeld40 => ?_)
    generalize U47.drew = U48 at *
    refine tk (i := 0) (v := .agg #[(.string X1), (.string X2)]) rfl (by kernel_rfl) (fun _ _ _ h => h) rfl ?_ hHeld40 ?_
    · intro W hS; obtain ⟨zx_0, zx_1⟩ := c2 hS.1; go_simp
    simp only [Act.put, y1, y2, y3, y4, y5, y6, y7]
    refine tk (i := 1) (v := .agg #[(.string Z1), (.string Z2)]) rfl (by kernel_rfl) (fun _ _ _ h => h) rfl ?_ hHeld40 ?_
    · intro W hS; obtain ⟨zz_0, zz_1⟩ := c2 hS.2.2; go_simp
    simp only [Act.put, y1, y2, y3, y4, y5, y6, y7]
    refine tk (i := 3) (v := .agg #[(.string Y1), (.string Y2)]) rfl (by kernel_rfl) (fun _ _ _ h => h) rfl ?_ hHeld40 ?_
    · intro W hS; obtain ⟨zy_0, zy_1⟩ := c2 hS.2.1; go_simp
    simp only [Act.put, y1, y2, y3, y4, y5, y6, y7]
    refine tk (i := 4) (v := .agg #[(.string Z1), (.string Z2)]) rfl (by kernel_rfl) (fun _ _ _ h => h) rfl ?_ hHeld40 ?_
    · intro W hS; obtain ⟨zz_0, zz_1⟩ := c2 hS.2.2; go_simp
    simp only [Act.put, y1, y2, y3, y4, y5, y6, y7]
    refine wpAnyH_ready (rs := [2]) (by kernel_rfl) (by simp) ?_
    refine AllReadyH.cons rfl (fun K hK => ?_) AllReadyH.nil
    clear hHeld40
    go_simp
    refine (PE.out U48).mono ?_
    rintro e U49 ⟨rfl, hb⟩
    replace B := aB B hb
    replace Jx := aJ Jx hb
    replace Jy := aJ Jy hb
    replace Jz := aJ Jz hb
    replace Jb := aJ Jb hb
    clear hb
    go_wp2_with fail
    refine hK.out _ _ (⟨Jx.out, Jy.out, Jz.out⟩) (fun hHeld41 => ?_)
    clear hK K
    try simp only [Act.put, y1, y2, y3, y4, y5, y6, y7]
    refine wpAnyH_ready (rs := [5]) (by kernel_rfl) (by simp) ?_
    refine AllReadyH.cons rfl (fun K hK => ?_) AllReadyH.nil
    clear hHeld41
    go_simp
    refine (PQ.out U49).mono ?_
    rintro e U50 ⟨rfl, hb⟩
    replace B := aB B hb
    replace Jx := aJ Jx hb
    replace Jy := aJ Jy hb
    replace Jz := aJ Jz hb
    replace Jb := aJ Jb hb
    clear hb
    go_wp2_with fail
    refine hK.out _ _ (⟨Jx.out, Jy.out, Jz.out⟩) (fun hHeld42 => ?_)
    clear hK K
    try simp only [Act.put, y1, y2, y3, y4, y5, y6, y7]
    refine wpAnyH_ready (rs := [6]) (by kernel_rfl) (by simp) ?_
    refine AllReadyH.cons rfl (fun K hK => ?_) AllReadyH.nil
    clear hHeld42
    go_simp
    refine (F2.out U50).mono ?_
    rintro e U51 ⟨rfl, hb⟩
    replace B := aB B hb
    replace Jx := aJ Jx hb
    replace Jy := aJ Jy hb
    replace Jz := aJ Jz hb
    replace Jb := aJ Jb hb
    clear hb
    go_wp2_with fail
    refine hK.out _ _ (⟨Jx.out, Jy.out, Jz.out⟩) (fun hHeld43 => ?_)
    clear hK K
    try simp only [Act.put, y1, y2, y3, y4, y5, y6, y7]
    refine tk (i := 7) (v := .tuple #[.int .i64 n, .int .i64 0]) rfl (by kernel_rfl) (fun _ _ _ h => h) rfl ?_ hHeld43 ?_
    · intro W hS; go_simp
    simp only [Act.put, y1, y2, y3, y4, y5, y6, y7]
    refine tk (i := 8) (v := (.int .i64 n)) rfl (by kernel_rfl) (fun _ _ _ h => h) rfl ?_ hHeld43 ?_
    · intro W hS; go_simp
    simp only [Act.put, y1, y2, y3, y4, y5, y6, y7]
    refine tk (i := 9) (v := (.int .i64 0)) rfl (by kernel_rfl) (fun _ _ _ h => h) rfl ?_ hHeld43 ?_
    · intro W hS; go_simp
    simp only [Act.put, y1, y2, y3, y4, y5, y6, y7]
    refine tk (i := 10) (v := (.int .i64 n)) rfl (by kernel_rfl) (fun _ _ _ h => h) rfl ?_ hHeld43 ?_
    · intro W hS; go_simp
    simp only [Act.put, y1, y2, y3, y4, y5, y6, y7]
    refine tk (i := 11) (v := (.int .i64 0)) rfl (by kernel_rfl) (fun _ _ _ h => h) rfl ?_ hHeld43 ?_
    · intro W hS; go_simp
    simp only [Act.put, y1, y2, y3, y4, y5, y6, y7]
    refine wpAnyH_done (by kernel_rfl) ?_ _
    clear hHeld43
    rcases hq with ⟨h1, h2, h3⟩ | ⟨h1, h2⟩ | ⟨h1, h2, h3⟩
    · skip
      obtain ⟨zx_0, zx_1⟩ := cJ Jx
      obtain ⟨zy_0, zy_1⟩ := cJ Jy
      subst h1 h2 h3
      go_wp2_with fail
      go_ret
      exact ⟨rfl, B.out⟩
    · skip
      obtain ⟨zx_0, zx_1⟩ := cJ Jx
      obtain ⟨zy_0, zy_1⟩ := cJ Jy
      have k1 : (n == 0) = false := beq_eq_false_iff_ne.2 h1
      have k2 : (X1.toList == Y1.toList) = false := toList_ne h2
      go_wp2_with fail
      go_ret
      exact ⟨rfl, B.out⟩
    · skip
      obtain ⟨zx_0, zx_1⟩ := cJ Jx
      obtain ⟨zy_0, zy_1⟩ := cJ Jy
      subst h2
      have k1 : (n == 0) = false := beq_eq_false_iff_ne.2 h1
      have k2 : (X2.toList == Y2.toList) = false := toList_ne h3
      go_wp2_with fail
      go_ret
      exact ⟨rfl, B.out⟩
end Go.Proofs.YtnahindcgedbaabDoor
