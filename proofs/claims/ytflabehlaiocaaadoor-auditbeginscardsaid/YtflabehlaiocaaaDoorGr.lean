/- The program: the share. -/
import Derived.Test.YtflabehlaiocaaaDoorGm
set_option linter.unusedSimpArgs false
set_option linter.unusedVariables false
set_option maxRecDepth 100000
namespace Go.Proofs.YtflabehlaiocaaaDoor
open Go.RowKit Go.Deep Go.PlainAid

def rb8 : Code := Go.Code.region 8 #[{ dst := some 30, op := Go.Op.move (Go.Operand.tmp 0), type := 22, pos := "pair.go:61", after := #[], guard := none }, { dst := some 31, op := Go.Op.move (Go.Operand.tmp 9), type := 3, pos := "pair.go:61", after := #[], guard := none }, { dst := some 32, op := Go.Op.indexAddr 22 (Go.Operand.tmp 30) (Go.Operand.tmp 31), type := 0, pos := "pair.go:61", after := #[{ on := 0, ground := Go.Ground.data }, { on := 1, ground := Go.Ground.data }], guard := none }, { dst := some 33, op := Go.Op.load 3 (Go.Operand.tmp 32), type := 3, pos := "pair.go:61", after := #[{ on := 2, ground := Go.Ground.data }], guard := none }, { dst := some 34, op := Go.Op.call { callee := Go.Callee.value (Go.Operand.func 29), args := #[Go.Operand.tmp 33], argTypes := #[3] }, type := 37, pos := "pair.go:61", after := #[{ on := 3, ground := Go.Ground.data }], guard := none }, { dst := some 35, op := Go.Op.move (Go.Operand.tmp 0), type := 22, pos := "pair.go:61", after := #[], guard := none }, { dst := some 36, op := Go.Op.move (Go.Operand.tmp 9), type := 3, pos := "pair.go:61", after := #[], guard := none }, { dst := some 37, op := Go.Op.indexAddr 22 (Go.Operand.tmp 35) (Go.Operand.tmp 36), type := 0, pos := "pair.go:61", after := #[{ on := 5, ground := Go.Ground.data }, { on := 6, ground := Go.Ground.data }], guard := none }, { dst := some 38, op := Go.Op.load 3 (Go.Operand.tmp 37), type := 3, pos := "pair.go:61", after := #[{ on := 7, ground := Go.Ground.data }], guard := none }, { dst := some 39, op := Go.Op.move (Go.Operand.tmp 0), type := 22, pos := "pair.go:61", after := #[], guard := none }, { dst := some 40, op := Go.Op.move (Go.Operand.tmp 11), type := 3, pos := "pair.go:61", after := #[], guard := none }, { dst := some 41, op := Go.Op.indexAddr 22 (Go.Operand.tmp 39) (Go.Operand.tmp 40), type := 0, pos := "pair.go:61", after := #[{ on := 9, ground := Go.Ground.data }, { on := 10, ground := Go.Ground.data }], guard := none }, { dst := some 42, op := Go.Op.load 3 (Go.Operand.tmp 41), type := 3, pos := "pair.go:61", after := #[{ on := 11, ground := Go.Ground.data }], guard := none }, { dst := some 43, op := Go.Op.binOp Go.BinOp.add 3 (Go.Operand.tmp 38) (Go.Operand.tmp 42) 3, type := 3, pos := "pair.go:61", after := #[{ on := 8, ground := Go.Ground.data }, { on := 12, ground := Go.Ground.data }], guard := none }, { dst := some 44, op := Go.Op.call { callee := Go.Callee.value (Go.Operand.func 29), args := #[Go.Operand.tmp 43], argTypes := #[3] }, type := 37, pos := "pair.go:61", after := #[{ on := 13, ground := Go.Ground.data }, { on := 4, ground := Go.Ground.chain }], guard := none }, { dst := some 45, op := Go.Op.call { callee := Go.Callee.value (Go.Operand.func 28), args := #[Go.Operand.tmp 34, Go.Operand.tmp 44], argTypes := #[37, 37] }, type := 39, pos := "pair.go:61", after := #[{ on := 4, ground := Go.Ground.data }, { on := 14, ground := Go.Ground.data }, { on := 14, ground := Go.Ground.chain }], guard := none }, { dst := some 12, op := Go.Op.alloc 39, type := 0, pos := "pair.go:61", after := #[], guard := none }, { dst := none, op := Go.Op.store 39 (Go.Operand.tmp 12) (Go.Operand.tmp 45), type := 0, pos := "pair.go:61", after := #[{ on := 16, ground := Go.Ground.data }, { on := 15, ground := Go.Ground.data }, { on := 15, ground := Go.Ground.chain }, { on := 0, ground := Go.Ground.phase }, { on := 1, ground := Go.Ground.phase }, { on := 2, ground := Go.Ground.phase }, { on := 3, ground := Go.Ground.phase }, { on := 4, ground := Go.Ground.phase }, { on := 5, ground := Go.Ground.phase }, { on := 6, ground := Go.Ground.phase }, { on := 7, ground := Go.Ground.phase }, { on := 8, ground := Go.Ground.phase }, { on := 9, ground := Go.Ground.phase }, { on := 10, ground := Go.Ground.phase }, { on := 11, ground := Go.Ground.phase }, { on := 12, ground := Go.Ground.phase }, { on := 13, ground := Go.Ground.phase }, { on := 14, ground := Go.Ground.phase }, { on := 15, ground := Go.Ground.phase }, { on := 16, ground := Go.Ground.phase }], guard := none }] true
set_option maxHeartbeats 16000000 in
theorem rb8_wp {wr : World} {df : List Deferred} {at_ ot N ct i k x y A D : Nat} {Q : Exit → Act → World → Prop} {t1 t2 t3 t4 t5 t6 t7 t8 t10 t12 t13 t14 t15 t16 t17 t18 t19 t20 t21 t22 t23 t24 t25 t26 t27 t28 t29 t30 t31 t32 t33 t34 t35 t36 t37 t38 t39 t40 t41 t42 t43 t44 t45 t46 t47 t48 t49 t50 t51 t52 t53 t54 t55 t56 t57 t58 t59 t60 t61 t62 t63 t64 t65 t66 t67 t68 t69 t70 t71 t72 t73 t74 : Value} (il : (i : Int) < (N : Int)) (kl : (k : Int) < (N : Int))
    (c1 : ∀ V, Below wr.heap.size wr V → V.cell? ⟨at_, ot + i, none⟩ = some (.int .i64 (x : Int)))
    (c2 : ∀ V, Below wr.heap.size wr V → V.cell? ⟨at_, ot + k, none⟩ = some (.int .i64 (y : Int)))
    (k1 : ∀ V, Calls Tryd.prog 29 #[.int .i64 (x : Int)] V fun e w' => (∃ v, e = .returned v ∧ NumV w' 1000000000 x v ∧ Fr V.heap.size v) ∧ Below V.heap.size V w')
    (k2 : ∀ V, Calls Tryd.prog 29 #[.int .i64 (IntKind.i64.wrap ((x : Int) + (y : Int)))] V fun e w' => (∃ v, e = .returned v ∧ NumV w' 1000000000 (x + y) v ∧ Fr V.heap.size v) ∧ Below V.heap.size V w')
    (k3 : ∀ V v1 v2, wr.heap.size ≤ V.heap.size → NumV V 1000000000 x v1 → NumV V 1000000000 (x + y) v2 → Fr wr.heap.size v1 → Fr wr.heap.size v2 → Calls Tryd.prog 28 #[v1, v2] V fun e w' => (∃ u1 u2, e = .returned (.agg #[u1, u2]) ∧ NumV w' 1000000000 A u1 ∧ NumV w' 1000000000 D u2 ∧ Fr wr.heap.size u1 ∧ Fr wr.heap.size u2) ∧ Below V.heap.size V w')
    (hQp : ∀ c a a' w, Q (.panic c) a w → Q (.panic c) a' w) (hQ : ∀ u30 u31 u32 u33 u34 u35 u36 u37 u38 u39 u40 u41 u42 u43 u44 u45 b z1 z2 W, Below wr.heap.size wr W → IHolds W b 39 [z1, z2] → NumV W 1000000000 A z1 → NumV W 1000000000 D z2 → Fr wr.heap.size z1 → Fr wr.heap.size z2 → wr.heap.size ≤ b → Q .normal ⟨#[.slice (some ⟨at_, ot, none⟩) N ct, t1, t2, t3, t4, t5, t6, t7, t8, .int .i64 (i : Int), t10, .int .i64 (k : Int), .pointer (some ⟨b, 0, none⟩), t13, t14, t15, t16, t17, t18, t19, t20, t21, t22, t23, t24, t25, t26, t27, t28, t29, u30, u31, u32, u33, u34, u35, u36, u37, u38, u39, u40, u41, u42, u43, u44, u45, t46, t47, t48, t49, t50, t51, t52, t53, t54, t55, t56, t57, t58, t59, t60, t61, t62, t63, t64, t65, t66, t67, t68, t69, t70, t71, t72, t73, t74], df⟩ W) :
    rb8.wp Tryd.prog Q ⟨#[.slice (some ⟨at_, ot, none⟩) N ct, t1, t2, t3, t4, t5, t6, t7, t8, .int .i64 (i : Int), t10, .int .i64 (k : Int), t12, t13, t14, t15, t16, t17, t18, t19, t20, t21, t22, t23, t24, t25, t26, t27, t28, t29, t30, t31, t32, t33, t34, t35, t36, t37, t38, t39, t40, t41, t42, t43, t44, t45, t46, t47, t48, t49, t50, t51, t52, t53, t54, t55, t56, t57, t58, t59, t60, t61, t62, t63, t64, t65, t66, t67, t68, t69, t70, t71, t72, t73, t74], df⟩ wr := by
  have HP : Hid (∀ c a a' w, Q (.panic c) a w → Q (.panic c) a' w) := hQp
  have HQ : Hid (∀ u30 u31 u32 u33 u34 u35 u36 u37 u38 u39 u40 u41 u42 u43 u44 u45 b z1 z2 W, Below wr.heap.size wr W → IHolds W b 39 [z1, z2] → NumV W 1000000000 A z1 → NumV W 1000000000 D z2 → Fr wr.heap.size z1 → Fr wr.heap.size z2 → wr.heap.size ≤ b → Q .normal ⟨#[.slice (some ⟨at_, ot, none⟩) N ct, t1, t2, t3, t4, t5, t6, t7, t8, .int .i64 (i : Int), t10, .int .i64 (k : Int), .pointer (some ⟨b, 0, none⟩), t13, t14, t15, t16, t17, t18, t19, t20, t21, t22, t23, t24, t25, t26, t27, t28, t29, u30, u31, u32, u33, u34, u35, u36, u37, u38, u39, u40, u41, u42, u43, u44, u45, t46, t47, t48, t49, t50, t51, t52, t53, t54, t55, t56, t57, t58, t59, t60, t61, t62, t63, t64, t65, t66, t67, t68, t69, t70, t71, t72, t73, t74], df⟩ W) := hQ
  have CE1 : Hid (∀ V, Below wr.heap.size wr V → V.cell? ⟨at_, ot + i, none⟩ = some (.int .i64 (x : Int))) := c1
  have CE2 : Hid (∀ V, Below wr.heap.size wr V → V.cell? ⟨at_, ot + k, none⟩ = some (.int .i64 (y : Int))) := c2
  have C1 : Hid (∀ V, Calls Tryd.prog 29 #[.int .i64 (x : Int)] V fun e w' => (∃ v, e = .returned v ∧ NumV w' 1000000000 x v ∧ Fr V.heap.size v) ∧ Below V.heap.size V w') := k1
  have C2 : Hid (∀ V, Calls Tryd.prog 29 #[.int .i64 (IntKind.i64.wrap ((x : Int) + (y : Int)))] V fun e w' => (∃ v, e = .returned v ∧ NumV w' 1000000000 (x + y) v ∧ Fr V.heap.size v) ∧ Below V.heap.size V w') := k2
  have C3 : Hid (∀ V v1 v2, wr.heap.size ≤ V.heap.size → NumV V 1000000000 x v1 → NumV V 1000000000 (x + y) v2 → Fr wr.heap.size v1 → Fr wr.heap.size v2 → Calls Tryd.prog 28 #[v1, v2] V fun e w' => (∃ u1 u2, e = .returned (.agg #[u1, u2]) ∧ NumV w' 1000000000 A u1 ∧ NumV w' 1000000000 D u2 ∧ Fr wr.heap.size u1 ∧ Fr wr.heap.size u2) ∧ Below V.heap.size V w') := k3
  clear hQ hQp c1 c2 k1 k2 k3
  unfold rb8
  have B : Hid (Below wr.heap.size wr wr) := Below.refl _ _
  have hb := dB wr
  replace B := aB B hb
  clear hb
  refine wp_region_held_drew (S := fun W => Below wr.heap.size wr W) (by kernel_rfl) B.out (fun hHeld1 => ?_)
  generalize wr.drew = U1 at *
  refine tk (i := 0) (v := .slice (some ⟨at_, ot, none⟩) N ct) rfl (by kernel_rfl) (fun _ _ _ h => HP.out _ _ _ _ h) (by kernel_rfl) ?_ hHeld1 ?_
  · intro V hS; go_simp
  simp only [Act.put, y1, y2, y3, y4, y5, y6, y7]
  refine tk (i := 1) (v := .int .i64 (i : Int)) rfl (by kernel_rfl) (fun _ _ _ h => HP.out _ _ _ _ h) (by kernel_rfl) ?_ hHeld1 ?_
  · intro V hS; go_simp
  simp only [Act.put, y1, y2, y3, y4, y5, y6, y7]
  refine tk (i := 5) (v := .slice (some ⟨at_, ot, none⟩) N ct) rfl (by kernel_rfl) (fun _ _ _ h => HP.out _ _ _ _ h) (by kernel_rfl) ?_ hHeld1 ?_
  · intro V hS; go_simp
  simp only [Act.put, y1, y2, y3, y4, y5, y6, y7]
  refine tk (i := 6) (v := .int .i64 (i : Int)) rfl (by kernel_rfl) (fun _ _ _ h => HP.out _ _ _ _ h) (by kernel_rfl) ?_ hHeld1 ?_
  · intro V hS; go_simp
  simp only [Act.put, y1, y2, y3, y4, y5, y6, y7]
  refine tk (i := 9) (v := .slice (some ⟨at_, ot, none⟩) N ct) rfl (by kernel_rfl) (fun _ _ _ h => HP.out _ _ _ _ h) (by kernel_rfl) ?_ hHeld1 ?_
  · intro V hS; go_simp
  simp only [Act.put, y1, y2, y3, y4, y5, y6, y7]
  refine tk (i := 10) (v := .int .i64 (k : Int)) rfl (by kernel_rfl) (fun _ _ _ h => HP.out _ _ _ _ h) (by kernel_rfl) ?_ hHeld1 ?_
  · intro V hS; go_simp
  simp only [Act.put, y1, y2, y3, y4, y5, y6, y7]
  refine tk (i := 2) (v := .pointer (some ⟨at_, ot + i, none⟩)) rfl (by kernel_rfl) (fun _ _ _ h => HP.out _ _ _ _ h) (by kernel_rfl) ?_ hHeld1 ?_
  · intro V hS; go_simp
  simp only [Act.put, y1, y2, y3, y4, y5, y6, y7]
  refine tk (i := 7) (v := .pointer (some ⟨at_, ot + i, none⟩)) rfl (by kernel_rfl) (fun _ _ _ h => HP.out _ _ _ _ h) (by kernel_rfl) ?_ hHeld1 ?_
  · intro V hS; go_simp
  simp only [Act.put, y1, y2, y3, y4, y5, y6, y7]
  refine tk (i := 11) (v := .pointer (some ⟨at_, ot + k, none⟩)) rfl (by kernel_rfl) (fun _ _ _ h => HP.out _ _ _ _ h) (by kernel_rfl) ?_ hHeld1 ?_
  · intro V hS; go_simp
  simp only [Act.put, y1, y2, y3, y4, y5, y6, y7]
  refine tk (i := 3) (v := .int .i64 (x : Int)) rfl (by kernel_rfl) (fun _ _ _ h => HP.out _ _ _ _ h) (by kernel_rfl) ?_ hHeld1 ?_
  · intro V hS; have z := CE1.out V hS; go_simp
  simp only [Act.put, y1, y2, y3, y4, y5, y6, y7]
  refine tk (i := 8) (v := .int .i64 (x : Int)) rfl (by kernel_rfl) (fun _ _ _ h => HP.out _ _ _ _ h) (by kernel_rfl) ?_ hHeld1 ?_
  · intro V hS; have z := CE1.out V hS; go_simp
  simp only [Act.put, y1, y2, y3, y4, y5, y6, y7]
  refine tk (i := 12) (v := .int .i64 (y : Int)) rfl (by kernel_rfl) (fun _ _ _ h => HP.out _ _ _ _ h) (by kernel_rfl) ?_ hHeld1 ?_
  · intro V hS; have z := CE2.out V hS; go_simp
  simp only [Act.put, y1, y2, y3, y4, y5, y6, y7]
  refine tk (i := 13) (v := .int .i64 (IntKind.i64.wrap ((x : Int) + (y : Int)))) rfl (by kernel_rfl) (fun _ _ _ h => HP.out _ _ _ _ h) (by kernel_rfl) ?_ hHeld1 ?_
  · intro V hS; go_simp
  simp only [Act.put, y1, y2, y3, y4, y5, y6, y7]
  refine wpAnyH_ready (rs := [4, 16]) (by kernel_rfl) (by simp) ?_
  refine AllReadyH.cons rfl (fun K hK => ?_) (AllReadyH.cons rfl (fun K hK => ?_) AllReadyH.nil)
  · clear hHeld1
    go_simp
    refine (C1.out U1).mono ?_
    rintro e U2 ⟨⟨y1, rfl, hv, hf⟩, hb⟩
    have Ny1 : Hid (NumV U2 1000000000 (x) y1) := hv
    have Fy1 : Hid (Fr wr.heap.size y1) := hf.mono B.out.size
    clear hv hf
    replace B := aB B hb
    clear hb
    go_wp2_with fail
    refine hK.out _ _ (B.out) (fun hHeld2 => ?_)
    clear hK K
    try simp only [Act.put, y1, y2, y3, y4, y5, y6, y7]
    refine wpAnyH_ready (rs := [14, 16]) (by kernel_rfl) (by simp) ?_
    refine AllReadyH.cons rfl (fun K hK => ?_) (AllReadyH.cons rfl (fun K hK => ?_) AllReadyH.nil)
    · clear hHeld2
      go_simp
      refine (C2.out U2).mono ?_
      rintro e U3 ⟨⟨y2, rfl, hv, hf⟩, hb⟩
      have Ny2 : Hid (NumV U3 1000000000 (x + y) y2) := hv
      have Fy2 : Hid (Fr wr.heap.size y2) := hf.mono B.out.size
      clear hv hf
      replace B := aB B hb
      replace Ny1 := aN Ny1 hb
      clear hb
      go_wp2_with fail
      refine hK.out _ _ (B.out) (fun hHeld3 => ?_)
      clear hK K
      try simp only [Act.put, y1, y2, y3, y4, y5, y6, y7]
      refine wpAnyH_ready (rs := [15, 16]) (by kernel_rfl) (by simp) ?_
      refine AllReadyH.cons rfl (fun K hK => ?_) (AllReadyH.cons rfl (fun K hK => ?_) AllReadyH.nil)
      · clear hHeld3
        go_simp
        refine (C3.out U3 _ _ B.out.size Ny1.out Ny2.out Fy1.out Fy2.out).mono ?_
        rintro e U4 ⟨⟨u1, u2, rfl, hv, hv', hf, hf'⟩, hb⟩
        have Nu1 : Hid (NumV U4 1000000000 A u1) := hv
        have Fu1 : Hid (Fr wr.heap.size u1) := hf
        have Nu2 : Hid (NumV U4 1000000000 D u2) := hv'
        have Fu2 : Hid (Fr wr.heap.size u2) := hf'
        clear hv hv' hf hf'
        replace B := aB B hb
        replace Ny1 := aN Ny1 hb
        replace Ny2 := aN Ny2 hb
        clear hb
        go_wp2_with fail
        refine hK.out _ _ (B.out) (fun hHeld4 => ?_)
        clear hK K
        try simp only [Act.put, y1, y2, y3, y4, y5, y6, y7]
        refine wpAnyH_ready (rs := [16]) (by kernel_rfl) (by simp) ?_
        refine AllReadyH.cons rfl (fun K hK => ?_) AllReadyH.nil
        clear hHeld4
        go_simp
        have ge_sh : Hid (wr.heap.size ≤ U4.heap.size) := B.out.size
        have hb := nB U4 (.cells #[(.slice none 0 0), (.slice none 0 0)] 39)
        have Jsh : Hid (IHolds (U4.alloc (.cells #[(.slice none 0 0), (.slice none 0 0)] 39)) U4.heap.size 39 [(.slice none 0 0), (.slice none 0 0)]) := IHolds.new _ _ _
        replace B := aB B hb
        replace Ny1 := aN Ny1 hb
        replace Ny2 := aN Ny2 hb
        replace Nu1 := aN Nu1 hb
        replace Nu2 := aN Nu2 hb
        clear hb
        generalize (U4.alloc (.cells #[(.slice none 0 0), (.slice none 0 0)] 39)) = U5 at *
        generalize U4.heap.size = b6 at *
        refine hK.out _ _ (B.out) (fun hHeld5 => ?_)
        clear hK K
        try simp only [Act.put, y1, y2, y3, y4, y5, y6, y7]
        refine wpAnyH_ready (rs := [17]) (by kernel_rfl) (by simp) ?_
        refine AllReadyH.cons rfl (fun K hK => ?_) AllReadyH.nil
        clear hHeld5
        obtain ⟨u1_a, u1_l, u1_c, rfl⟩ := sN Nu1
        obtain ⟨u2_a, u2_l, u2_c, rfl⟩ := sN Nu2
        obtain ⟨zsh_0, zsh_1⟩ := cJ Jsh
        have f0 := fJ Jsh
        have hBut : But (b6) U5 ((U5.setCell ⟨b6, 0, none⟩ (.slice u1_a u1_l u1_c)).setCell ⟨b6, 1, none⟩ (.slice u2_a u2_l u2_c)) := (((But.refl _ U5).setCell 0 (.slice u1_a u1_l u1_c)).setCell 1 (.slice u2_a u2_l u2_c))
        have I4 : Hid (IHolds _ (b6) 39 [(.slice u1_a u1_l u1_c), (.slice u2_a u2_l u2_c)]) := ((Jsh.out.set 0 (.slice u1_a u1_l u1_c)).set 1 (.slice u2_a u2_l u2_c))
        replace B : Hid (Below wr.heap.size wr ((U5.setCell ⟨b6, 0, none⟩ (.slice u1_a u1_l u1_c)).setCell ⟨b6, 1, none⟩ (.slice u2_a u2_l u2_c))) := ((B.out.setCell (by first | exact Nat.le_refl _ | exact ge_sh.out | (show wr.heap.size ≤ b6; omega)) _).setCell (by first | exact Nat.le_refl _ | exact ge_sh.out | (show wr.heap.size ≤ b6; omega)) _)
        replace Ny1 := tN Ny1 Jsh (by simp) hBut
        replace Ny2 := tN Ny2 Jsh (by simp) hBut
        replace Nu1 := tN Nu1 Jsh (by simp) hBut
        replace Nu2 := tN Nu2 Jsh (by simp) hBut
        replace Jsh := I4
        clear I4 hBut
        go_simp
        try go_wp2_with fail
        clear zsh_0 zsh_1
        clear f0
        generalize ((U5.setCell ⟨b6, 0, none⟩ (.slice u1_a u1_l u1_c)).setCell ⟨b6, 1, none⟩ (.slice u2_a u2_l u2_c)) = U7 at *
        refine hK.out _ _ (B.out) (fun hHeld6 => ?_)
        clear hK K
        try simp only [Act.put, y1, y2, y3, y4, y5, y6, y7]
        refine wpAnyH_done (by kernel_rfl) ?_ _
        clear hHeld6
        exact HQ.out _ _ _ _ _ _ _ _ _ _ _ _ _ _ _ _ _ _ _ _ B.out Jsh.out Nu1.out Nu2.out Fu1.out Fu2.out ge_sh.out
      · clear hHeld3
        go_simp
        have ge_sh : Hid (wr.heap.size ≤ U3.heap.size) := B.out.size
        have hb := nB U3 (.cells #[(.slice none 0 0), (.slice none 0 0)] 39)
        have Jsh : Hid (IHolds (U3.alloc (.cells #[(.slice none 0 0), (.slice none 0 0)] 39)) U3.heap.size 39 [(.slice none 0 0), (.slice none 0 0)]) := IHolds.new _ _ _
        replace B := aB B hb
        replace Ny1 := aN Ny1 hb
        replace Ny2 := aN Ny2 hb
        clear hb
        generalize (U3.alloc (.cells #[(.slice none 0 0), (.slice none 0 0)] 39)) = U8 at *
        generalize U3.heap.size = b9 at *
        refine hK.out _ _ (B.out) (fun hHeld7 => ?_)
        clear hK K
        try simp only [Act.put, y1, y2, y3, y4, y5, y6, y7]
        refine wpAnyH_ready (rs := [15]) (by kernel_rfl) (by simp) ?_
        refine AllReadyH.cons rfl (fun K hK => ?_) AllReadyH.nil
        clear hHeld7
        go_simp
        refine (C3.out U8 _ _ B.out.size Ny1.out Ny2.out Fy1.out Fy2.out).mono ?_
        rintro e U10 ⟨⟨u1, u2, rfl, hv, hv', hf, hf'⟩, hb⟩
        have Nu1 : Hid (NumV U10 1000000000 A u1) := hv
        have Fu1 : Hid (Fr wr.heap.size u1) := hf
        have Nu2 : Hid (NumV U10 1000000000 D u2) := hv'
        have Fu2 : Hid (Fr wr.heap.size u2) := hf'
        clear hv hv' hf hf'
        replace B := aB B hb
        replace Jsh := aJ Jsh hb
        replace Ny1 := aN Ny1 hb
        replace Ny2 := aN Ny2 hb
        clear hb
        go_wp2_with fail
        refine hK.out _ _ (B.out) (fun hHeld8 => ?_)
        clear hK K
        try simp only [Act.put, y1, y2, y3, y4, y5, y6, y7]
        refine wpAnyH_ready (rs := [17]) (by kernel_rfl) (by simp) ?_
        refine AllReadyH.cons rfl (fun K hK => ?_) AllReadyH.nil
        clear hHeld8
        obtain ⟨u1_a, u1_l, u1_c, rfl⟩ := sN Nu1
        obtain ⟨u2_a, u2_l, u2_c, rfl⟩ := sN Nu2
        obtain ⟨zsh_0, zsh_1⟩ := cJ Jsh
        have f0 := fJ Jsh
        have hBut : But (b9) U10 ((U10.setCell ⟨b9, 0, none⟩ (.slice u1_a u1_l u1_c)).setCell ⟨b9, 1, none⟩ (.slice u2_a u2_l u2_c)) := (((But.refl _ U10).setCell 0 (.slice u1_a u1_l u1_c)).setCell 1 (.slice u2_a u2_l u2_c))
        have I4 : Hid (IHolds _ (b9) 39 [(.slice u1_a u1_l u1_c), (.slice u2_a u2_l u2_c)]) := ((Jsh.out.set 0 (.slice u1_a u1_l u1_c)).set 1 (.slice u2_a u2_l u2_c))
        replace B : Hid (Below wr.heap.size wr ((U10.setCell ⟨b9, 0, none⟩ (.slice u1_a u1_l u1_c)).setCell ⟨b9, 1, none⟩ (.slice u2_a u2_l u2_c))) := ((B.out.setCell (by first | exact Nat.le_refl _ | exact ge_sh.out | (show wr.heap.size ≤ b9; omega)) _).setCell (by first | exact Nat.le_refl _ | exact ge_sh.out | (show wr.heap.size ≤ b9; omega)) _)
        replace Ny1 := tN Ny1 Jsh (by simp) hBut
        replace Ny2 := tN Ny2 Jsh (by simp) hBut
        replace Nu1 := tN Nu1 Jsh (by simp) hBut
        replace Nu2 := tN Nu2 Jsh (by simp) hBut
        replace Jsh := I4
        clear I4 hBut
        go_simp
        try go_wp2_with fail
        clear zsh_0 zsh_1
        clear f0
        generalize ((U10.setCell ⟨b9, 0, none⟩ (.slice u1_a u1_l u1_c)).setCell ⟨b9, 1, none⟩ (.slice u2_a u2_l u2_c)) = U11 at *
        refine hK.out _ _ (B.out) (fun hHeld9 => ?_)
        clear hK K
        try simp only [Act.put, y1, y2, y3, y4, y5, y6, y7]
        refine wpAnyH_done (by kernel_rfl) ?_ _
        clear hHeld9
        exact HQ.out _ _ _ _ _ _ _ _ _ _ _ _ _ _ _ _ _ _ _ _ B.out Jsh.out Nu1.out Nu2.out Fu1.out Fu2.out ge_sh.out
    · clear hHeld2
      go_simp
      have ge_sh : Hid (wr.heap.size ≤ U2.heap.size) := B.out.size
      have hb := nB U2 (.cells #[(.slice none 0 0), (.slice none 0 0)] 39)
      have Jsh : Hid (IHolds (U2.alloc (.cells #[(.slice none 0 0), (.slice none 0 0)] 39)) U2.heap.size 39 [(.slice none 0 0), (.slice none 0 0)]) := IHolds.new _ _ _
      replace B := aB B hb
      replace Ny1 := aN Ny1 hb
      clear hb
      generalize (U2.alloc (.cells #[(.slice none 0 0), (.slice none 0 0)] 39)) = U12 at *
      generalize U2.heap.size = b13 at *
      refine hK.out _ _ (B.out) (fun hHeld10 => ?_)
      clear hK K
      try simp only [Act.put, y1, y2, y3, y4, y5, y6, y7]
      refine wpAnyH_ready (rs := [14]) (by kernel_rfl) (by simp) ?_
      refine AllReadyH.cons rfl (fun K hK => ?_) AllReadyH.nil
      clear hHeld10
      go_simp
      refine (C2.out U12).mono ?_
      rintro e U14 ⟨⟨y2, rfl, hv, hf⟩, hb⟩
      have Ny2 : Hid (NumV U14 1000000000 (x + y) y2) := hv
      have Fy2 : Hid (Fr wr.heap.size y2) := hf.mono B.out.size
      clear hv hf
      replace B := aB B hb
      replace Jsh := aJ Jsh hb
      replace Ny1 := aN Ny1 hb
      clear hb
      go_wp2_with fail
      refine hK.out _ _ (B.out) (fun hHeld11 => ?_)
      clear hK K
      try simp only [Act.put, y1, y2, y3, y4, y5, y6, y7]
      refine wpAnyH_ready (rs := [15]) (by kernel_rfl) (by simp) ?_
      refine AllReadyH.cons rfl (fun K hK => ?_) AllReadyH.nil
      clear hHeld11
      go_simp
      refine (C3.out U14 _ _ B.out.size Ny1.out Ny2.out Fy1.out Fy2.out).mono ?_
      rintro e U15 ⟨⟨u1, u2, rfl, hv, hv', hf, hf'⟩, hb⟩
      have Nu1 : Hid (NumV U15 1000000000 A u1) := hv
      have Fu1 : Hid (Fr wr.heap.size u1) := hf
      have Nu2 : Hid (NumV U15 1000000000 D u2) := hv'
      have Fu2 : Hid (Fr wr.heap.size u2) := hf'
      clear hv hv' hf hf'
      replace B := aB B hb
      replace Jsh := aJ Jsh hb
      replace Ny1 := aN Ny1 hb
      replace Ny2 := aN Ny2 hb
      clear hb
      go_wp2_with fail
      refine hK.out _ _ (B.out) (fun hHeld12 => ?_)
      clear hK K
      try simp only [Act.put, y1, y2, y3, y4, y5, y6, y7]
      refine wpAnyH_ready (rs := [17]) (by kernel_rfl) (by simp) ?_
      refine AllReadyH.cons rfl (fun K hK => ?_) AllReadyH.nil
      clear hHeld12
      obtain ⟨u1_a, u1_l, u1_c, rfl⟩ := sN Nu1
      obtain ⟨u2_a, u2_l, u2_c, rfl⟩ := sN Nu2
      obtain ⟨zsh_0, zsh_1⟩ := cJ Jsh
      have f0 := fJ Jsh
      have hBut : But (b13) U15 ((U15.setCell ⟨b13, 0, none⟩ (.slice u1_a u1_l u1_c)).setCell ⟨b13, 1, none⟩ (.slice u2_a u2_l u2_c)) := (((But.refl _ U15).setCell 0 (.slice u1_a u1_l u1_c)).setCell 1 (.slice u2_a u2_l u2_c))
      have I4 : Hid (IHolds _ (b13) 39 [(.slice u1_a u1_l u1_c), (.slice u2_a u2_l u2_c)]) := ((Jsh.out.set 0 (.slice u1_a u1_l u1_c)).set 1 (.slice u2_a u2_l u2_c))
      replace B : Hid (Below wr.heap.size wr ((U15.setCell ⟨b13, 0, none⟩ (.slice u1_a u1_l u1_c)).setCell ⟨b13, 1, none⟩ (.slice u2_a u2_l u2_c))) := ((B.out.setCell (by first | exact Nat.le_refl _ | exact ge_sh.out | (show wr.heap.size ≤ b13; omega)) _).setCell (by first | exact Nat.le_refl _ | exact ge_sh.out | (show wr.heap.size ≤ b13; omega)) _)
      replace Ny1 := tN Ny1 Jsh (by simp) hBut
      replace Ny2 := tN Ny2 Jsh (by simp) hBut
      replace Nu1 := tN Nu1 Jsh (by simp) hBut
      replace Nu2 := tN Nu2 Jsh (by simp) hBut
      replace Jsh := I4
      clear I4 hBut
      go_simp
      try go_wp2_with fail
      clear zsh_0 zsh_1
      clear f0
      generalize ((U15.setCell ⟨b13, 0, none⟩ (.slice u1_a u1_l u1_c)).setCell ⟨b13, 1, none⟩ (.slice u2_a u2_l u2_c)) = U16 at *
      refine hK.out _ _ (B.out) (fun hHeld13 => ?_)
      clear hK K
      try simp only [Act.put, y1, y2, y3, y4, y5, y6, y7]
      refine wpAnyH_done (by kernel_rfl) ?_ _
      clear hHeld13
      exact HQ.out _ _ _ _ _ _ _ _ _ _ _ _ _ _ _ _ _ _ _ _ B.out Jsh.out Nu1.out Nu2.out Fu1.out Fu2.out ge_sh.out
  · clear hHeld1
    go_simp
    have ge_sh : Hid (wr.heap.size ≤ U1.heap.size) := B.out.size
    have hb := nB U1 (.cells #[(.slice none 0 0), (.slice none 0 0)] 39)
    have Jsh : Hid (IHolds (U1.alloc (.cells #[(.slice none 0 0), (.slice none 0 0)] 39)) U1.heap.size 39 [(.slice none 0 0), (.slice none 0 0)]) := IHolds.new _ _ _
    replace B := aB B hb
    clear hb
    generalize (U1.alloc (.cells #[(.slice none 0 0), (.slice none 0 0)] 39)) = U17 at *
    generalize U1.heap.size = b18 at *
    refine hK.out _ _ (B.out) (fun hHeld14 => ?_)
    clear hK K
    try simp only [Act.put, y1, y2, y3, y4, y5, y6, y7]
    refine wpAnyH_ready (rs := [4]) (by kernel_rfl) (by simp) ?_
    refine AllReadyH.cons rfl (fun K hK => ?_) AllReadyH.nil
    clear hHeld14
    go_simp
    refine (C1.out U17).mono ?_
    rintro e U19 ⟨⟨y1, rfl, hv, hf⟩, hb⟩
    have Ny1 : Hid (NumV U19 1000000000 (x) y1) := hv
    have Fy1 : Hid (Fr wr.heap.size y1) := hf.mono B.out.size
    clear hv hf
    replace B := aB B hb
    replace Jsh := aJ Jsh hb
    clear hb
    go_wp2_with fail
    refine hK.out _ _ (B.out) (fun hHeld15 => ?_)
    clear hK K
    try simp only [Act.put, y1, y2, y3, y4, y5, y6, y7]
    refine wpAnyH_ready (rs := [14]) (by kernel_rfl) (by simp) ?_
    refine AllReadyH.cons rfl (fun K hK => ?_) AllReadyH.nil
    clear hHeld15
    go_simp
    refine (C2.out U19).mono ?_
    rintro e U20 ⟨⟨y2, rfl, hv, hf⟩, hb⟩
    have Ny2 : Hid (NumV U20 1000000000 (x + y) y2) := hv
    have Fy2 : Hid (Fr wr.heap.size y2) := hf.mono B.out.size
    clear hv hf
    replace B := aB B hb
    replace Jsh := aJ Jsh hb
    replace Ny1 := aN Ny1 hb
    clear hb
    go_wp2_with fail
    refine hK.out _ _ (B.out) (fun hHeld16 => ?_)
    clear hK K
    try simp only [Act.put, y1, y2, y3, y4, y5, y6, y7]
    refine wpAnyH_ready (rs := [15]) (by kernel_rfl) (by simp) ?_
    refine AllReadyH.cons rfl (fun K hK => ?_) AllReadyH.nil
    clear hHeld16
    go_simp
    refine (C3.out U20 _ _ B.out.size Ny1.out Ny2.out Fy1.out Fy2.out).mono ?_
    rintro e U21 ⟨⟨u1, u2, rfl, hv, hv', hf, hf'⟩, hb⟩
    have Nu1 : Hid (NumV U21 1000000000 A u1) := hv
    have Fu1 : Hid (Fr wr.heap.size u1) := hf
    have Nu2 : Hid (NumV U21 1000000000 D u2) := hv'
    have Fu2 : Hid (Fr wr.heap.size u2) := hf'
    clear hv hv' hf hf'
    replace B := aB B hb
    replace Jsh := aJ Jsh hb
    replace Ny1 := aN Ny1 hb
    replace Ny2 := aN Ny2 hb
    clear hb
    go_wp2_with fail
    refine hK.out _ _ (B.out) (fun hHeld17 => ?_)
    clear hK K
    try simp only [Act.put, y1, y2, y3, y4, y5, y6, y7]
    refine wpAnyH_ready (rs := [17]) (by kernel_rfl) (by simp) ?_
    refine AllReadyH.cons rfl (fun K hK => ?_) AllReadyH.nil
    clear hHeld17
    obtain ⟨u1_a, u1_l, u1_c, rfl⟩ := sN Nu1
    obtain ⟨u2_a, u2_l, u2_c, rfl⟩ := sN Nu2
    obtain ⟨zsh_0, zsh_1⟩ := cJ Jsh
    have f0 := fJ Jsh
    have hBut : But (b18) U21 ((U21.setCell ⟨b18, 0, none⟩ (.slice u1_a u1_l u1_c)).setCell ⟨b18, 1, none⟩ (.slice u2_a u2_l u2_c)) := (((But.refl _ U21).setCell 0 (.slice u1_a u1_l u1_c)).setCell 1 (.slice u2_a u2_l u2_c))
    have I4 : Hid (IHolds _ (b18) 39 [(.slice u1_a u1_l u1_c), (.slice u2_a u2_l u2_c)]) := ((Jsh.out.set 0 (.slice u1_a u1_l u1_c)).set 1 (.slice u2_a u2_l u2_c))
    replace B : Hid (Below wr.heap.size wr ((U21.setCell ⟨b18, 0, none⟩ (.slice u1_a u1_l u1_c)).setCell ⟨b18, 1, none⟩ (.slice u2_a u2_l u2_c))) := ((B.out.setCell (by first | exact Nat.le_refl _ | exact ge_sh.out | (show wr.heap.size ≤ b18; omega)) _).setCell (by first | exact Nat.le_refl _ | exact ge_sh.out | (show wr.heap.size ≤ b18; omega)) _)
    replace Ny1 := tN Ny1 Jsh (by simp) hBut
    replace Ny2 := tN Ny2 Jsh (by simp) hBut
    replace Nu1 := tN Nu1 Jsh (by simp) hBut
    replace Nu2 := tN Nu2 Jsh (by simp) hBut
    replace Jsh := I4
    clear I4 hBut
    go_simp
    try go_wp2_with fail
    clear zsh_0 zsh_1
    clear f0
    generalize ((U21.setCell ⟨b18, 0, none⟩ (.slice u1_a u1_l u1_c)).setCell ⟨b18, 1, none⟩ (.slice u2_a u2_l u2_c)) = U22 at *
    refine hK.out _ _ (B.out) (fun hHeld18 => ?_)
    clear hK K
    try simp only [Act.put, y1, y2, y3, y4, y5, y6, y7]
    refine wpAnyH_done (by kernel_rfl) ?_ _
    clear hHeld18
    exact HQ.out _ _ _ _ _ _ _ _ _ _ _ _ _ _ _ _ _ _ _ _ B.out Jsh.out Nu1.out Nu2.out Fu1.out Fu2.out ge_sh.out
end Go.Proofs.YtflabehlaiocaaaDoor
