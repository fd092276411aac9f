/- The program: a row more. -/
import Derived.Test.YtflabehlaiocaaaDoorGm
set_option linter.unusedSimpArgs false
set_option linter.unusedVariables false
set_option maxRecDepth 100000
namespace Go.Proofs.YtflabehlaiocaaaDoor
open Go.RowKit Go.Deep Go.PlainAid

def rb11 : Code := Go.Code.region 11 #[{ dst := some 58, op := Go.Op.fieldAddr 27 (Go.Operand.tmp 7) 2, type := 0, pos := "pair.go:64", after := #[], guard := none }, { dst := some 59, op := Go.Op.load 25 (Go.Operand.tmp 58), type := 25, pos := "pair.go:64", after := #[{ on := 0, ground := Go.Ground.data }], guard := none }, { dst := some 60, op := Go.Op.load 39 (Go.Operand.tmp 12), type := 39, pos := "pair.go:64", after := #[], guard := none }, { dst := some 61, op := Go.Op.call { callee := Go.Callee.value (Go.Operand.func 30), args := #[Go.Operand.tmp 60], argTypes := #[39] }, type := 24, pos := "pair.go:64", after := #[{ on := 2, ground := Go.Ground.data }], guard := none }, { dst := some 62, op := Go.Op.buildSlice 25 1 #[(0, Go.Operand.tmp 61)], type := 25, pos := "pair.go:64", after := #[{ on := 3, ground := Go.Ground.data }], guard := none }, { dst := some 63, op := Go.Op.call { callee := Go.Callee.builtin Go.Builtin.append, args := #[Go.Operand.tmp 59, Go.Operand.tmp 62], argTypes := #[25, 25] }, type := 25, pos := "pair.go:64", after := #[{ on := 1, ground := Go.Ground.data }, { on := 4, ground := Go.Ground.data }, { on := 3, ground := Go.Ground.chain }], guard := none }, { dst := some 64, op := Go.Op.fieldAddr 27 (Go.Operand.tmp 7) 2, type := 0, pos := "pair.go:64", after := #[{ on := 0, ground := Go.Ground.phase }, { on := 1, ground := Go.Ground.phase }, { on := 2, ground := Go.Ground.phase }, { on := 3, ground := Go.Ground.phase }, { on := 4, ground := Go.Ground.phase }, { on := 5, ground := Go.Ground.phase }], guard := none }, { dst := none, op := Go.Op.store 25 (Go.Operand.tmp 64) (Go.Operand.tmp 63), type := 0, pos := "pair.go:64", after := #[{ on := 6, ground := Go.Ground.data }, { on := 5, ground := Go.Ground.data }, { on := 5, ground := Go.Ground.chain }, { on := 0, ground := Go.Ground.phase }, { on := 1, ground := Go.Ground.phase }, { on := 2, ground := Go.Ground.phase }, { on := 3, ground := Go.Ground.phase }, { on := 4, ground := Go.Ground.phase }, { on := 5, ground := Go.Ground.phase }], guard := none }] true
set_option maxHeartbeats 8000000 in
theorem rb11_wp {w wr : World} {df : List Deferred} {P : Nat → Prop} {tb : Nat} {n d T1 T2 : ByteArray} {v1 v2 v3 v4 : Value} {l1 l2 : List Int} {l3 l4 : List (ByteArray × ByteArray)} {b12 : Nat} {u1 u2 : Value} {Q : Exit → Act → World → Prop} {t0 t1 t2 t3 t4 t5 t6 t8 t9 t10 t11 t13 t14 t15 t16 t17 t18 t19 t20 t21 t22 t23 t24 t25 t26 t27 t28 t29 t30 t31 t32 t33 t34 t35 t36 t37 t38 t39 t40 t41 t42 t43 t44 t45 t46 t47 t48 t49 t50 t51 t52 t53 t54 t55 t56 t57 t58 t59 t60 t61 t62 t63 t64 t65 t66 t67 t68 t69 t70 t71 t72 t73 t74 : Value}
    (hws : WS w wr P tb n d v1 v2 v3 v4 l1 l2 l3 l4) (hl : l3.length ≤ 4000) (hj : IHolds wr b12 39 [u1, u2]) (hpb : P b12)
    (c30 : ∀ V, Kp P wr V → Calls Tryd.prog 30 #[.agg #[u1, u2]] V fun e w' => e = .returned (.agg #[.string T1, .string T2]) ∧ Below V.heap.size V w')
    (hQp : ∀ c a a' w, Q (.panic c) a w → Q (.panic c) a' w) (hQ : ∀ u58 u59 u60 u61 u62 u63 u64 v' W, WS w W P tb n d v1 v2 v' v4 l1 l2 (l3 ++ [(T1, T2)]) l4 → Kp P wr W → Q .normal ⟨#[t0, t1, t2, t3, t4, t5, t6, .pointer (some ⟨tb, 0, none⟩), t8, t9, t10, t11, .pointer (some ⟨b12, 0, none⟩), t13, t14, t15, t16, t17, t18, t19, t20, t21, t22, t23, t24, t25, t26, t27, t28, t29, t30, t31, t32, t33, t34, t35, t36, t37, t38, t39, t40, t41, t42, t43, t44, t45, t46, t47, t48, t49, t50, t51, t52, t53, t54, t55, t56, t57, u58, u59, u60, u61, u62, u63, u64, t65, t66, t67, t68, t69, t70, t71, t72, t73, t74], df⟩ W) :
    rb11.wp Tryd.prog Q ⟨#[t0, t1, t2, t3, t4, t5, t6, .pointer (some ⟨tb, 0, none⟩), t8, t9, t10, t11, .pointer (some ⟨b12, 0, none⟩), t13, t14, t15, t16, t17, t18, t19, t20, t21, t22, t23, t24, t25, t26, t27, t28, t29, t30, t31, t32, t33, t34, t35, t36, t37, t38, t39, t40, t41, t42, t43, t44, t45, t46, t47, t48, t49, t50, t51, t52, t53, t54, t55, t56, t57, t58, t59, t60, t61, t62, t63, t64, t65, t66, t67, t68, t69, t70, t71, t72, t73, t74], df⟩ wr := by
  have HP : Hid (∀ c a a' w, Q (.panic c) a w → Q (.panic c) a' w) := hQp
  have HQ : Hid (∀ u58 u59 u60 u61 u62 u63 u64 v' W, WS w W P tb n d v1 v2 v' v4 l1 l2 (l3 ++ [(T1, T2)]) l4 → Kp P wr W → Q .normal ⟨#[t0, t1, t2, t3, t4, t5, t6, .pointer (some ⟨tb, 0, none⟩), t8, t9, t10, t11, .pointer (some ⟨b12, 0, none⟩), t13, t14, t15, t16, t17, t18, t19, t20, t21, t22, t23, t24, t25, t26, t27, t28, t29, t30, t31, t32, t33, t34, t35, t36, t37, t38, t39, t40, t41, t42, t43, t44, t45, t46, t47, t48, t49, t50, t51, t52, t53, t54, t55, t56, t57, u58, u59, u60, u61, u62, u63, u64, t65, t66, t67, t68, t69, t70, t71, t72, t73, t74], df⟩ W) := hQ
  have HS : Hid (WS w wr.drew P tb n d v1 v2 v3 v4 l1 l2 l3 l4) := hws.of_below (dB wr)
  have HK : Hid (Kp P wr wr.drew) := hws.kp (dB wr)
  have HL : Hid (l3.length ≤ 4000) := hl
  have HJ : Hid (IHolds wr b12 39 [u1, u2]) := hj
  have HPB : Hid (P b12) := hpb
  have C30 : Hid (∀ V, Kp P wr V → Calls Tryd.prog 30 #[.agg #[u1, u2]] V fun e w' => e = .returned (.agg #[.string T1, .string T2]) ∧ Below V.heap.size V w') := c30
  clear hj hpb c30
  clear hQ hQp hws hl
  unfold rb11
  refine wp_region_held_drew (S := fun V => IHolds V b12 39 [u1, u2]) (by kernel_rfl) ((show IHolds _ _ _ _ from (HK.out b12 HPB.out).trans HJ.out)) (fun hH => ?_)
  generalize wr.drew = V0 at *
  refine tk (i := 0) (v := .pointer (some ⟨tb, 2, none⟩)) rfl (by kernel_rfl) (fun _ _ _ h => HP.out _ _ _ _ h) (by kernel_rfl) ?_ hH ?_
  · intro V hS
    go_simp
  simp only [Act.put, y1, y2, y3, y4, y5, y6, y7]
  refine tk (i := 2) (v := .agg #[u1, u2]) rfl (by kernel_rfl) (fun _ _ _ h => HP.out _ _ _ _ h) (by kernel_rfl) ?_ hH ?_
  · intro V hS
    obtain ⟨z1, z2⟩ := c2 hS
    go_simp
  simp only [Act.put, y1, y2, y3, y4, y5, y6, y7]
  refine wpAnyH_ready (rs := [1, 3]) (by kernel_rfl) (by simp) ?_
  refine AllReadyH.cons rfl (fun K hK => ?_) (AllReadyH.cons rfl (fun K hK => ?_) AllReadyH.nil)
  · clear hH
    have z1 : V0.cell? ⟨tb, 2, none⟩ = some v3 := HS.out.hold.cell 2 (by simp)
    go_simp
    refine hK.out _ _ ((show IHolds _ _ _ _ from (HK.out b12 HPB.out).trans HJ.out)) (fun hH => ?_)
    clear hK K z1
    try simp only [Act.put, y1, y2, y3, y4, y5, y6, y7]
    refine wpAnyH_ready (rs := [3]) (by kernel_rfl) (by simp) ?_
    refine AllReadyH.cons rfl (fun K hK => ?_) AllReadyH.nil
    clear hH
    go_simp
    refine (C30.out V0 HK.out).mono ?_
    rintro e V2 ⟨rfl, hb⟩
    have HK2 : Hid (Kp P wr V2) := HK.out.trans (HS.out.kp hb)
    have HS2 : Hid (WS w V2 P tb n d v1 v2 v3 v4 l1 l2 l3 l4) := HS.out.of_below hb
    clear HS HK
    have HS := HS2
    have HK := HK2
    clear HS2 HK2
    clear hb
    refine hK.out _ _ ((show IHolds _ _ _ _ from (HK.out b12 HPB.out).trans HJ.out)) (fun hH => ?_)
    clear hK K
    try simp only [Act.put, y1, y2, y3, y4, y5, y6, y7]
    refine wpAnyH_ready (rs := [4]) (by kernel_rfl) (by simp) ?_
    refine AllReadyH.cons rfl (fun K hK => ?_) AllReadyH.nil
    clear hH
    go_simp
    have hb : Below V2.heap.size V2 (V2.alloc (.cells #[.string T1, .string T2] 24)) := (Below.refl _ _).alloc (Nat.le_refl _) _
    have A : Hid (IHolds (V2.alloc (.cells #[.string T1, .string T2] 24)) V2.heap.size 24 [.string T1, .string T2]) := IHolds.new V2 24 _
    have HK2 : Hid (Kp P wr (V2.alloc (.cells #[.string T1, .string T2] 24))) := HK.out.trans (HS.out.kp hb)
    have HS2 : Hid (WS w (V2.alloc (.cells #[.string T1, .string T2] 24)) P tb n d v1 v2 v3 v4 l1 l2 l3 l4) := HS.out.of_below hb
    clear HS HK
    have HS := HS2
    have HK := HK2
    clear HS2 HK2
    clear hb
    refine hK.out _ _ ((show IHolds _ _ _ _ from (HK.out b12 HPB.out).trans HJ.out)) (fun hH => ?_)
    clear hK K
    try simp only [Act.put, y1, y2, y3, y4, y5, y6, y7]
    generalize (V2.alloc (.cells #[.string T1, .string T2] 24)) = V3 at *
    generalize V2.heap.size = ga at *
    refine wpAnyH_ready (rs := [5]) (by kernel_rfl) (by simp) ?_
    refine AllReadyH.cons rfl (fun K hK => ?_) AllReadyH.nil
    clear hH
    obtain ⟨v', V4, hr, ho, hg, ha⟩ := app24 HS.out.o3 HS.out.below.size A.out HL.out 25
    obtain ⟨sa, sl, sc, rfl⟩ := own_slice ho
    have HG : Hid (IHolds V4 tb 27 [v1, v2, v3, v4, .string n, .string d, .int .i64 0]) := HS.out.grown3 ho hg ha
    obtain ⟨hs2, hk2⟩ := HS.out.put3 ho hg ha
    have HS2 : Hid (WS w (V4.setCell ⟨tb, 2, none⟩ (.slice sa sl sc)) P tb n d v1 v2 (.slice sa sl sc) v4 l1 l2 (l3 ++ [(T1, T2)]) l4) := hs2
    have HK2 : Hid (Kp P wr (V4.setCell ⟨tb, 2, none⟩ (.slice sa sl sc))) := HK.out.trans hk2
    clear hs2 hk2
    refine wp_append_at (.tmp 59) (.tmp 62) 25 rfl _ (.slice sa sl sc) _ rfl rfl hr ?_
    have HKM : Hid (Kp P wr V4) := HK.out.trans (fun g hp => hg.block g (HS.out.far g hp).1 (fun q => (HS.out.far g hp).2.2.2.2.1 q.symm))
    have HBM : Hid (Below w.heap.size w V4) := HS.out.below.grown hg HS.out.below.size (fun g hx => (HS.out.o3.lt g hx).1)
    clear HK HS hr ho hg ha A
    refine hK.out _ _ ((show IHolds _ _ _ _ from (HKM.out b12 HPB.out).trans HJ.out)) (fun hH => ?_)
    clear hK K
    try simp only [Act.put, y1, y2, y3, y4, y5, y6, y7]
    clear HKM HBM
    refine tk (i := 6) (v := .pointer (some ⟨tb, 2, none⟩)) rfl (by kernel_rfl) (fun _ _ _ h => HP.out _ _ _ _ h) (by kernel_rfl) ?_ hH ?_
    · intro V hS
      go_simp
    simp only [Act.put, y1, y2, y3, y4, y5, y6, y7]
    refine wpAnyH_ready (rs := [7]) (by kernel_rfl) (by simp) ?_
    refine AllReadyH.cons rfl (fun K hK => ?_) AllReadyH.nil
    clear hH
    have z5 : V4.cell? ⟨tb, 2, none⟩ = some v3 := HG.out.cell 2 (by simp)
    have f5 : ∀ i, V4.frozen? ⟨tb, i, none⟩ = false := fun i => HG.out.frozen i
    go_simp
    clear z5 f5
    generalize (V4.setCell ⟨tb, 2, none⟩ (.slice sa sl sc)) = VV at *
    have HS := HS2
    have HK := HK2
    clear HS2 HK2 HG
    refine hK.out _ _ ((show IHolds _ _ _ _ from (HK.out b12 HPB.out).trans HJ.out)) (fun hH => ?_)
    clear hK K
    try simp only [Act.put, y1, y2, y3, y4, y5, y6, y7]
    refine wpAnyH_done (by kernel_rfl) ?_ _
    exact HQ.out _ _ _ _ _ _ _ _ _ HS.out HK.out
  · clear hH
    go_simp
    refine (C30.out V0 HK.out).mono ?_
    rintro e V6 ⟨rfl, hb⟩
    have HK2 : Hid (Kp P wr V6) := HK.out.trans (HS.out.kp hb)
    have HS2 : Hid (WS w V6 P tb n d v1 v2 v3 v4 l1 l2 l3 l4) := HS.out.of_below hb
    clear HS HK
    have HS := HS2
    have HK := HK2
    clear HS2 HK2
    clear hb
    refine hK.out _ _ ((show IHolds _ _ _ _ from (HK.out b12 HPB.out).trans HJ.out)) (fun hH => ?_)
    clear hK K
    try simp only [Act.put, y1, y2, y3, y4, y5, y6, y7]
    refine wpAnyH_ready (rs := [1, 4]) (by kernel_rfl) (by simp) ?_
    refine AllReadyH.cons rfl (fun K hK => ?_) (AllReadyH.cons rfl (fun K hK => ?_) AllReadyH.nil)
    · clear hH
      have z7 : V6.cell? ⟨tb, 2, none⟩ = some v3 := HS.out.hold.cell 2 (by simp)
      go_simp
      refine hK.out _ _ ((show IHolds _ _ _ _ from (HK.out b12 HPB.out).trans HJ.out)) (fun hH => ?_)
      clear hK K z7
      try simp only [Act.put, y1, y2, y3, y4, y5, y6, y7]
      refine wpAnyH_ready (rs := [4]) (by kernel_rfl) (by simp) ?_
      refine AllReadyH.cons rfl (fun K hK => ?_) AllReadyH.nil
      clear hH
      go_simp
      have hb : Below V6.heap.size V6 (V6.alloc (.cells #[.string T1, .string T2] 24)) := (Below.refl _ _).alloc (Nat.le_refl _) _
      have A : Hid (IHolds (V6.alloc (.cells #[.string T1, .string T2] 24)) V6.heap.size 24 [.string T1, .string T2]) := IHolds.new V6 24 _
      have HK2 : Hid (Kp P wr (V6.alloc (.cells #[.string T1, .string T2] 24))) := HK.out.trans (HS.out.kp hb)
      have HS2 : Hid (WS w (V6.alloc (.cells #[.string T1, .string T2] 24)) P tb n d v1 v2 v3 v4 l1 l2 l3 l4) := HS.out.of_below hb
      clear HS HK
      have HS := HS2
      have HK := HK2
      clear HS2 HK2
      clear hb
      refine hK.out _ _ ((show IHolds _ _ _ _ from (HK.out b12 HPB.out).trans HJ.out)) (fun hH => ?_)
      clear hK K
      try simp only [Act.put, y1, y2, y3, y4, y5, y6, y7]
      generalize (V6.alloc (.cells #[.string T1, .string T2] 24)) = V8 at *
      generalize V6.heap.size = ga at *
      refine wpAnyH_ready (rs := [5]) (by kernel_rfl) (by simp) ?_
      refine AllReadyH.cons rfl (fun K hK => ?_) AllReadyH.nil
      clear hH
      obtain ⟨v', V9, hr, ho, hg, ha⟩ := app24 HS.out.o3 HS.out.below.size A.out HL.out 25
      obtain ⟨sa, sl, sc, rfl⟩ := own_slice ho
      have HG : Hid (IHolds V9 tb 27 [v1, v2, v3, v4, .string n, .string d, .int .i64 0]) := HS.out.grown3 ho hg ha
      obtain ⟨hs2, hk2⟩ := HS.out.put3 ho hg ha
      have HS2 : Hid (WS w (V9.setCell ⟨tb, 2, none⟩ (.slice sa sl sc)) P tb n d v1 v2 (.slice sa sl sc) v4 l1 l2 (l3 ++ [(T1, T2)]) l4) := hs2
      have HK2 : Hid (Kp P wr (V9.setCell ⟨tb, 2, none⟩ (.slice sa sl sc))) := HK.out.trans hk2
      clear hs2 hk2
      refine wp_append_at (.tmp 59) (.tmp 62) 25 rfl _ (.slice sa sl sc) _ rfl rfl hr ?_
      have HKM : Hid (Kp P wr V9) := HK.out.trans (fun g hp => hg.block g (HS.out.far g hp).1 (fun q => (HS.out.far g hp).2.2.2.2.1 q.symm))
      have HBM : Hid (Below w.heap.size w V9) := HS.out.below.grown hg HS.out.below.size (fun g hx => (HS.out.o3.lt g hx).1)
      clear HK HS hr ho hg ha A
      refine hK.out _ _ ((show IHolds _ _ _ _ from (HKM.out b12 HPB.out).trans HJ.out)) (fun hH => ?_)
      clear hK K
      try simp only [Act.put, y1, y2, y3, y4, y5, y6, y7]
      clear HKM HBM
      refine tk (i := 6) (v := .pointer (some ⟨tb, 2, none⟩)) rfl (by kernel_rfl) (fun _ _ _ h => HP.out _ _ _ _ h) (by kernel_rfl) ?_ hH ?_
      · intro V hS
        go_simp
      simp only [Act.put, y1, y2, y3, y4, y5, y6, y7]
      refine wpAnyH_ready (rs := [7]) (by kernel_rfl) (by simp) ?_
      refine AllReadyH.cons rfl (fun K hK => ?_) AllReadyH.nil
      clear hH
      have z10 : V9.cell? ⟨tb, 2, none⟩ = some v3 := HG.out.cell 2 (by simp)
      have f10 : ∀ i, V9.frozen? ⟨tb, i, none⟩ = false := fun i => HG.out.frozen i
      go_simp
      clear z10 f10
      generalize (V9.setCell ⟨tb, 2, none⟩ (.slice sa sl sc)) = VV at *
      have HS := HS2
      have HK := HK2
      clear HS2 HK2 HG
      refine hK.out _ _ ((show IHolds _ _ _ _ from (HK.out b12 HPB.out).trans HJ.out)) (fun hH => ?_)
      clear hK K
      try simp only [Act.put, y1, y2, y3, y4, y5, y6, y7]
      refine wpAnyH_done (by kernel_rfl) ?_ _
      exact HQ.out _ _ _ _ _ _ _ _ _ HS.out HK.out
    · clear hH
      go_simp
      have hb : Below V6.heap.size V6 (V6.alloc (.cells #[.string T1, .string T2] 24)) := (Below.refl _ _).alloc (Nat.le_refl _) _
      have A : Hid (IHolds (V6.alloc (.cells #[.string T1, .string T2] 24)) V6.heap.size 24 [.string T1, .string T2]) := IHolds.new V6 24 _
      have HK2 : Hid (Kp P wr (V6.alloc (.cells #[.string T1, .string T2] 24))) := HK.out.trans (HS.out.kp hb)
      have HS2 : Hid (WS w (V6.alloc (.cells #[.string T1, .string T2] 24)) P tb n d v1 v2 v3 v4 l1 l2 l3 l4) := HS.out.of_below hb
      clear HS HK
      have HS := HS2
      have HK := HK2
      clear HS2 HK2
      clear hb
      refine hK.out _ _ ((show IHolds _ _ _ _ from (HK.out b12 HPB.out).trans HJ.out)) (fun hH => ?_)
      clear hK K
      try simp only [Act.put, y1, y2, y3, y4, y5, y6, y7]
      generalize (V6.alloc (.cells #[.string T1, .string T2] 24)) = V11 at *
      generalize V6.heap.size = ga at *
      refine wpAnyH_ready (rs := [1]) (by kernel_rfl) (by simp) ?_
      refine AllReadyH.cons rfl (fun K hK => ?_) AllReadyH.nil
      clear hH
      have z12 : V11.cell? ⟨tb, 2, none⟩ = some v3 := HS.out.hold.cell 2 (by simp)
      go_simp
      refine hK.out _ _ ((show IHolds _ _ _ _ from (HK.out b12 HPB.out).trans HJ.out)) (fun hH => ?_)
      clear hK K z12
      try simp only [Act.put, y1, y2, y3, y4, y5, y6, y7]
      refine wpAnyH_ready (rs := [5]) (by kernel_rfl) (by simp) ?_
      refine AllReadyH.cons rfl (fun K hK => ?_) AllReadyH.nil
      clear hH
      obtain ⟨v', V13, hr, ho, hg, ha⟩ := app24 HS.out.o3 HS.out.below.size A.out HL.out 25
      obtain ⟨sa, sl, sc, rfl⟩ := own_slice ho
      have HG : Hid (IHolds V13 tb 27 [v1, v2, v3, v4, .string n, .string d, .int .i64 0]) := HS.out.grown3 ho hg ha
      obtain ⟨hs2, hk2⟩ := HS.out.put3 ho hg ha
      have HS2 : Hid (WS w (V13.setCell ⟨tb, 2, none⟩ (.slice sa sl sc)) P tb n d v1 v2 (.slice sa sl sc) v4 l1 l2 (l3 ++ [(T1, T2)]) l4) := hs2
      have HK2 : Hid (Kp P wr (V13.setCell ⟨tb, 2, none⟩ (.slice sa sl sc))) := HK.out.trans hk2
      clear hs2 hk2
      refine wp_append_at (.tmp 59) (.tmp 62) 25 rfl _ (.slice sa sl sc) _ rfl rfl hr ?_
      have HKM : Hid (Kp P wr V13) := HK.out.trans (fun g hp => hg.block g (HS.out.far g hp).1 (fun q => (HS.out.far g hp).2.2.2.2.1 q.symm))
      have HBM : Hid (Below w.heap.size w V13) := HS.out.below.grown hg HS.out.below.size (fun g hx => (HS.out.o3.lt g hx).1)
      clear HK HS hr ho hg ha A
      refine hK.out _ _ ((show IHolds _ _ _ _ from (HKM.out b12 HPB.out).trans HJ.out)) (fun hH => ?_)
      clear hK K
      try simp only [Act.put, y1, y2, y3, y4, y5, y6, y7]
      clear HKM HBM
      refine tk (i := 6) (v := .pointer (some ⟨tb, 2, none⟩)) rfl (by kernel_rfl) (fun _ _ _ h => HP.out _ _ _ _ h) (by kernel_rfl) ?_ hH ?_
      · intro V hS
        go_simp
      simp only [Act.put, y1, y2, y3, y4, y5, y6, y7]
      refine wpAnyH_ready (rs := [7]) (by kernel_rfl) (by simp) ?_
      refine AllReadyH.cons rfl (fun K hK => ?_) AllReadyH.nil
      clear hH
      have z14 : V13.cell? ⟨tb, 2, none⟩ = some v3 := HG.out.cell 2 (by simp)
      have f14 : ∀ i, V13.frozen? ⟨tb, i, none⟩ = false := fun i => HG.out.frozen i
      go_simp
      clear z14 f14
      generalize (V13.setCell ⟨tb, 2, none⟩ (.slice sa sl sc)) = VV at *
      have HS := HS2
      have HK := HK2
      clear HS2 HK2 HG
      refine hK.out _ _ ((show IHolds _ _ _ _ from (HK.out b12 HPB.out).trans HJ.out)) (fun hH => ?_)
      clear hK K
      try simp only [Act.put, y1, y2, y3, y4, y5, y6, y7]
      refine wpAnyH_done (by kernel_rfl) ?_ _
      exact HQ.out _ _ _ _ _ _ _ _ _ HS.out HK.out
def rb12 : Code := Go.Code.region 12 #[{ dst := some 65, op := Go.Op.fieldAddr 27 (Go.Operand.tmp 7) 3, type := 0, pos := "pair.go:65", after := #[], guard := none }, { dst := some 66, op := Go.Op.load 25 (Go.Operand.tmp 65), type := 25, pos := "pair.go:65", after := #[{ on := 0, ground := Go.Ground.data }], guard := none }, { dst := some 67, op := Go.Op.call { callee := Go.Callee.value (Go.Operand.func 26), args := #[Go.Operand.const (Go.Value.int Go.IntKind.i64 1)], argTypes := #[3] }, type := 39, pos := "pair.go:65", after := #[], guard := none }, { dst := some 68, op := Go.Op.call { callee := Go.Callee.value (Go.Operand.func 30), args := #[Go.Operand.tmp 67], argTypes := #[39] }, type := 24, pos := "pair.go:65", after := #[{ on := 2, ground := Go.Ground.data }, { on := 2, ground := Go.Ground.chain }], guard := none }, { dst := some 69, op := Go.Op.buildSlice 25 1 #[(0, Go.Operand.tmp 68)], type := 25, pos := "pair.go:65", after := #[{ on := 3, ground := Go.Ground.data }], guard := none }, { dst := some 70, op := Go.Op.call { callee := Go.Callee.builtin Go.Builtin.append, args := #[Go.Operand.tmp 66, Go.Operand.tmp 69], argTypes := #[25, 25] }, type := 25, pos := "pair.go:65", after := #[{ on := 1, ground := Go.Ground.data }, { on := 4, ground := Go.Ground.data }, { on := 3, ground := Go.Ground.chain }], guard := none }, { dst := some 71, op := Go.Op.fieldAddr 27 (Go.Operand.tmp 7) 3, type := 0, pos := "pair.go:65", after := #[{ on := 0, ground := Go.Ground.phase }, { on := 1, ground := Go.Ground.phase }, { on := 2, ground := Go.Ground.phase }, { on := 3, ground := Go.Ground.phase }, { on := 4, ground := Go.Ground.phase }, { on := 5, ground := Go.Ground.phase }], guard := none }, { dst := none, op := Go.Op.store 25 (Go.Operand.tmp 71) (Go.Operand.tmp 70), type := 0, pos := "pair.go:65", after := #[{ on := 6, ground := Go.Ground.data }, { on := 5, ground := Go.Ground.data }, { on := 5, ground := Go.Ground.chain }, { on := 0, ground := Go.Ground.phase }, { on := 1, ground := Go.Ground.phase }, { on := 2, ground := Go.Ground.phase }, { on := 3, ground := Go.Ground.phase }, { on := 4, ground := Go.Ground.phase }, { on := 5, ground := Go.Ground.phase }], guard := none }] true
set_option maxHeartbeats 8000000 in
theorem rb12_wp {w wr : World} {df : List Deferred} {P : Nat → Prop} {tb : Nat} {n d T1 T2 : ByteArray} {v1 v2 v3 v4 : Value} {l1 l2 : List Int} {l3 l4 : List (ByteArray × ByteArray)}  {Q : Exit → Act → World → Prop} {t0 t1 t2 t3 t4 t5 t6 t8 t9 t10 t11 t12 t13 t14 t15 t16 t17 t18 t19 t20 t21 t22 t23 t24 t25 t26 t27 t28 t29 t30 t31 t32 t33 t34 t35 t36 t37 t38 t39 t40 t41 t42 t43 t44 t45 t46 t47 t48 t49 t50 t51 t52 t53 t54 t55 t56 t57 t58 t59 t60 t61 t62 t63 t64 t65 t66 t67 t68 t69 t70 t71 t72 t73 t74 : Value}
    (hws : WS w wr P tb n d v1 v2 v3 v4 l1 l2 l3 l4) (hl : l4.length ≤ 4000) (c26 : ∀ V, Calls Tryd.prog 26 #[.int .i64 1] V fun e w' => (∃ u1 u2, e = .returned (.agg #[u1, u2]) ∧ NumV w' 1000000000 1 u1 ∧ NumV w' 1000000000 1 u2) ∧ Below V.heap.size V w')
    (c30 : ∀ V u1 u2, NumV V 1000000000 1 u1 → NumV V 1000000000 1 u2 → Calls Tryd.prog 30 #[.agg #[u1, u2]] V fun e w' => e = .returned (.agg #[.string T1, .string T2]) ∧ Below V.heap.size V w')
    (hQp : ∀ c a a' w, Q (.panic c) a w → Q (.panic c) a' w) (hQ : ∀ u65 u66 u67 u68 u69 u70 u71 v' W, WS w W P tb n d v1 v2 v3 v' l1 l2 l3 (l4 ++ [(T1, T2)]) → Kp P wr W → Q .normal ⟨#[t0, t1, t2, t3, t4, t5, t6, .pointer (some ⟨tb, 0, none⟩), t8, t9, t10, t11, t12, t13, t14, t15, t16, t17, t18, t19, t20, t21, t22, t23, t24, t25, t26, t27, t28, t29, t30, t31, t32, t33, t34, t35, t36, t37, t38, t39, t40, t41, t42, t43, t44, t45, t46, t47, t48, t49, t50, t51, t52, t53, t54, t55, t56, t57, t58, t59, t60, t61, t62, t63, t64, u65, u66, u67, u68, u69, u70, u71, t72, t73, t74], df⟩ W) :
    rb12.wp Tryd.prog Q ⟨#[t0, t1, t2, t3, t4, t5, t6, .pointer (some ⟨tb, 0, none⟩), t8, t9, t10, t11, t12, t13, t14, t15, t16, t17, t18, t19, t20, t21, t22, t23, t24, t25, t26, t27, t28, t29, t30, t31, t32, t33, t34, t35, t36, t37, t38, t39, t40, t41, t42, t43, t44, t45, t46, t47, t48, t49, t50, t51, t52, t53, t54, t55, t56, t57, t58, t59, t60, t61, t62, t63, t64, t65, t66, t67, t68, t69, t70, t71, t72, t73, t74], df⟩ wr := by
  have HP : Hid (∀ c a a' w, Q (.panic c) a w → Q (.panic c) a' w) := hQp
  have HQ : Hid (∀ u65 u66 u67 u68 u69 u70 u71 v' W, WS w W P tb n d v1 v2 v3 v' l1 l2 l3 (l4 ++ [(T1, T2)]) → Kp P wr W → Q .normal ⟨#[t0, t1, t2, t3, t4, t5, t6, .pointer (some ⟨tb, 0, none⟩), t8, t9, t10, t11, t12, t13, t14, t15, t16, t17, t18, t19, t20, t21, t22, t23, t24, t25, t26, t27, t28, t29, t30, t31, t32, t33, t34, t35, t36, t37, t38, t39, t40, t41, t42, t43, t44, t45, t46, t47, t48, t49, t50, t51, t52, t53, t54, t55, t56, t57, t58, t59, t60, t61, t62, t63, t64, u65, u66, u67, u68, u69, u70, u71, t72, t73, t74], df⟩ W) := hQ
  have HS : Hid (WS w wr.drew P tb n d v1 v2 v3 v4 l1 l2 l3 l4) := hws.of_below (dB wr)
  have HK : Hid (Kp P wr wr.drew) := hws.kp (dB wr)
  have HL : Hid (l4.length ≤ 4000) := hl
  have C26 : Hid (∀ V, Calls Tryd.prog 26 #[.int .i64 1] V fun e w' => (∃ u1 u2, e = .returned (.agg #[u1, u2]) ∧ NumV w' 1000000000 1 u1 ∧ NumV w' 1000000000 1 u2) ∧ Below V.heap.size V w') := c26
  have C30 : Hid (∀ V u1 u2, NumV V 1000000000 1 u1 → NumV V 1000000000 1 u2 → Calls Tryd.prog 30 #[.agg #[u1, u2]] V fun e w' => e = .returned (.agg #[.string T1, .string T2]) ∧ Below V.heap.size V w') := c30
  clear c26 c30
  clear hQ hQp hws hl
  unfold rb12
  refine wp_region_held_drew (S := fun V => True) (by kernel_rfl) (trivial) (fun hH => ?_)
  generalize wr.drew = V0 at *
  refine tk (i := 0) (v := .pointer (some ⟨tb, 3, none⟩)) rfl (by kernel_rfl) (fun _ _ _ h => HP.out _ _ _ _ h) (by kernel_rfl) ?_ hH ?_
  · intro V hS
    go_simp
  simp only [Act.put, y1, y2, y3, y4, y5, y6, y7]
  refine wpAnyH_ready (rs := [1, 2]) (by kernel_rfl) (by simp) ?_
  refine AllReadyH.cons rfl (fun K hK => ?_) (AllReadyH.cons rfl (fun K hK => ?_) AllReadyH.nil)
  · clear hH
    have z1 : V0.cell? ⟨tb, 3, none⟩ = some v4 := HS.out.hold.cell 3 (by simp)
    go_simp
    refine hK.out _ _ (trivial) (fun hH => ?_)
    clear hK K z1
    try simp only [Act.put, y1, y2, y3, y4, y5, y6, y7]
    refine wpAnyH_ready (rs := [2]) (by kernel_rfl) (by simp) ?_
    refine AllReadyH.cons rfl (fun K hK => ?_) AllReadyH.nil
    clear hH
    go_simp
    refine (C26.out V0 ).mono ?_
    rintro e V2 ⟨⟨x1, x2, rfl, n1, n2⟩, hb⟩
    have N1 : Hid (NumV V2 _ _ x1) := n1
    have N2 : Hid (NumV V2 _ _ x2) := n2
    clear n1 n2
    have HK2 : Hid (Kp P wr V2) := HK.out.trans (HS.out.kp hb)
    have HS2 : Hid (WS w V2 P tb n d v1 v2 v3 v4 l1 l2 l3 l4) := HS.out.of_below hb
    clear HS HK
    have HS := HS2
    have HK := HK2
    clear HS2 HK2
    clear hb
    refine hK.out _ _ (trivial) (fun hH => ?_)
    clear hK K
    try simp only [Act.put, y1, y2, y3, y4, y5, y6, y7]
    refine wpAnyH_ready (rs := [3]) (by kernel_rfl) (by simp) ?_
    refine AllReadyH.cons rfl (fun K hK => ?_) AllReadyH.nil
    clear hH
    go_simp
    refine (C30.out V2 _ _ N1.out N2.out).mono ?_
    rintro e V3 ⟨rfl, hb⟩
    have HK2 : Hid (Kp P wr V3) := HK.out.trans (HS.out.kp hb)
    have HS2 : Hid (WS w V3 P tb n d v1 v2 v3 v4 l1 l2 l3 l4) := HS.out.of_below hb
    clear HS HK
    have HS := HS2
    have HK := HK2
    clear HS2 HK2
    replace N1 := aN N1 hb
    replace N2 := aN N2 hb
    clear hb
    refine hK.out _ _ (trivial) (fun hH => ?_)
    clear hK K
    try simp only [Act.put, y1, y2, y3, y4, y5, y6, y7]
    refine wpAnyH_ready (rs := [4]) (by kernel_rfl) (by simp) ?_
    refine AllReadyH.cons rfl (fun K hK => ?_) AllReadyH.nil
    clear hH
    go_simp
    have hb : Below V3.heap.size V3 (V3.alloc (.cells #[.string T1, .string T2] 24)) := (Below.refl _ _).alloc (Nat.le_refl _) _
    have A : Hid (IHolds (V3.alloc (.cells #[.string T1, .string T2] 24)) V3.heap.size 24 [.string T1, .string T2]) := IHolds.new V3 24 _
    have HK2 : Hid (Kp P wr (V3.alloc (.cells #[.string T1, .string T2] 24))) := HK.out.trans (HS.out.kp hb)
    have HS2 : Hid (WS w (V3.alloc (.cells #[.string T1, .string T2] 24)) P tb n d v1 v2 v3 v4 l1 l2 l3 l4) := HS.out.of_below hb
    clear HS HK
    have HS := HS2
    have HK := HK2
    clear HS2 HK2
    replace N1 := aN N1 hb
    replace N2 := aN N2 hb
    clear hb
    refine hK.out _ _ (trivial) (fun hH => ?_)
    clear hK K
    try simp only [Act.put, y1, y2, y3, y4, y5, y6, y7]
    generalize (V3.alloc (.cells #[.string T1, .string T2] 24)) = V4 at *
    generalize V3.heap.size = ga at *
    refine wpAnyH_ready (rs := [5]) (by kernel_rfl) (by simp) ?_
    refine AllReadyH.cons rfl (fun K hK => ?_) AllReadyH.nil
    clear hH
    obtain ⟨v', V5, hr, ho, hg, ha⟩ := app24 HS.out.o4 HS.out.below.size A.out HL.out 25
    obtain ⟨sa, sl, sc, rfl⟩ := own_slice ho
    have HG : Hid (IHolds V5 tb 27 [v1, v2, v3, v4, .string n, .string d, .int .i64 0]) := HS.out.grown4 ho hg ha
    obtain ⟨hs2, hk2⟩ := HS.out.put4 ho hg ha
    have HS2 : Hid (WS w (V5.setCell ⟨tb, 3, none⟩ (.slice sa sl sc)) P tb n d v1 v2 v3 (.slice sa sl sc) l1 l2 l3 (l4 ++ [(T1, T2)])) := hs2
    have HK2 : Hid (Kp P wr (V5.setCell ⟨tb, 3, none⟩ (.slice sa sl sc))) := HK.out.trans hk2
    clear hs2 hk2
    refine wp_append_at (.tmp 66) (.tmp 69) 25 rfl _ (.slice sa sl sc) _ rfl rfl hr ?_
    have HKM : Hid (Kp P wr V5) := HK.out.trans (fun g hp => hg.block g (HS.out.far g hp).1 (fun q => (HS.out.far g hp).2.2.2.2.2 q.symm))
    have HBM : Hid (Below w.heap.size w V5) := HS.out.below.grown hg HS.out.below.size (fun g hx => (HS.out.o4.lt g hx).1)
    clear HK HS hr ho hg ha A
    refine hK.out _ _ (trivial) (fun hH => ?_)
    clear hK K
    try simp only [Act.put, y1, y2, y3, y4, y5, y6, y7]
    clear HKM HBM
    refine tk (i := 6) (v := .pointer (some ⟨tb, 3, none⟩)) rfl (by kernel_rfl) (fun _ _ _ h => HP.out _ _ _ _ h) (by kernel_rfl) ?_ hH ?_
    · intro V hS
      go_simp
    simp only [Act.put, y1, y2, y3, y4, y5, y6, y7]
    refine wpAnyH_ready (rs := [7]) (by kernel_rfl) (by simp) ?_
    refine AllReadyH.cons rfl (fun K hK => ?_) AllReadyH.nil
    clear hH
    have z6 : V5.cell? ⟨tb, 3, none⟩ = some v4 := HG.out.cell 3 (by simp)
    have f6 : ∀ i, V5.frozen? ⟨tb, i, none⟩ = false := fun i => HG.out.frozen i
    go_simp
    clear z6 f6
    generalize (V5.setCell ⟨tb, 3, none⟩ (.slice sa sl sc)) = VV at *
    have HS := HS2
    have HK := HK2
    clear HS2 HK2 HG
    refine hK.out _ _ (trivial) (fun hH => ?_)
    clear hK K
    try simp only [Act.put, y1, y2, y3, y4, y5, y6, y7]
    refine wpAnyH_done (by kernel_rfl) ?_ _
    exact HQ.out _ _ _ _ _ _ _ _ _ HS.out HK.out
  · clear hH
    go_simp
    refine (C26.out V0 ).mono ?_
    rintro e V7 ⟨⟨x1, x2, rfl, n1, n2⟩, hb⟩
    have N1 : Hid (NumV V7 _ _ x1) := n1
    have N2 : Hid (NumV V7 _ _ x2) := n2
    clear n1 n2
    have HK2 : Hid (Kp P wr V7) := HK.out.trans (HS.out.kp hb)
    have HS2 : Hid (WS w V7 P tb n d v1 v2 v3 v4 l1 l2 l3 l4) := HS.out.of_below hb
    clear HS HK
    have HS := HS2
    have HK := HK2
    clear HS2 HK2
    clear hb
    refine hK.out _ _ (trivial) (fun hH => ?_)
    clear hK K
    try simp only [Act.put, y1, y2, y3, y4, y5, y6, y7]
    refine wpAnyH_ready (rs := [1, 3]) (by kernel_rfl) (by simp) ?_
    refine AllReadyH.cons rfl (fun K hK => ?_) (AllReadyH.cons rfl (fun K hK => ?_) AllReadyH.nil)
    · clear hH
      have z8 : V7.cell? ⟨tb, 3, none⟩ = some v4 := HS.out.hold.cell 3 (by simp)
      go_simp
      refine hK.out _ _ (trivial) (fun hH => ?_)
      clear hK K z8
      try simp only [Act.put, y1, y2, y3, y4, y5, y6, y7]
      refine wpAnyH_ready (rs := [3]) (by kernel_rfl) (by simp) ?_
      refine AllReadyH.cons rfl (fun K hK => ?_) AllReadyH.nil
      clear hH
      go_simp
      refine (C30.out V7 _ _ N1.out N2.out).mono ?_
      rintro e V9 ⟨rfl, hb⟩
      have HK2 : Hid (Kp P wr V9) := HK.out.trans (HS.out.kp hb)
      have HS2 : Hid (WS w V9 P tb n d v1 v2 v3 v4 l1 l2 l3 l4) := HS.out.of_below hb
      clear HS HK
      have HS := HS2
      have HK := HK2
      clear HS2 HK2
      replace N1 := aN N1 hb
      replace N2 := aN N2 hb
      clear hb
      refine hK.out _ _ (trivial) (fun hH => ?_)
      clear hK K
      try simp only [Act.put, y1, y2, y3, y4, y5, y6, y7]
      refine wpAnyH_ready (rs := [4]) (by kernel_rfl) (by simp) ?_
      refine AllReadyH.cons rfl (fun K hK => ?_) AllReadyH.nil
      clear hH
      go_simp
      have hb : Below V9.heap.size V9 (V9.alloc (.cells #[.string T1, .string T2] 24)) := (Below.refl _ _).alloc (Nat.le_refl _) _
      have A : Hid (IHolds (V9.alloc (.cells #[.string T1, .string T2] 24)) V9.heap.size 24 [.string T1, .string T2]) := IHolds.new V9 24 _
      have HK2 : Hid (Kp P wr (V9.alloc (.cells #[.string T1, .string T2] 24))) := HK.out.trans (HS.out.kp hb)
      have HS2 : Hid (WS w (V9.alloc (.cells #[.string T1, .string T2] 24)) P tb n d v1 v2 v3 v4 l1 l2 l3 l4) := HS.out.of_below hb
      clear HS HK
      have HS := HS2
      have HK := HK2
      clear HS2 HK2
      replace N1 := aN N1 hb
      replace N2 := aN N2 hb
      clear hb
      refine hK.out _ _ (trivial) (fun hH => ?_)
      clear hK K
      try simp only [Act.put, y1, y2, y3, y4, y5, y6, y7]
      generalize (V9.alloc (.cells #[.string T1, .string T2] 24)) = V10 at *
      generalize V9.heap.size = ga at *
      refine wpAnyH_ready (rs := [5]) (by kernel_rfl) (by simp) ?_
      refine AllReadyH.cons rfl (fun K hK => ?_) AllReadyH.nil
      clear hH
      obtain ⟨v', V11, hr, ho, hg, ha⟩ := app24 HS.out.o4 HS.out.below.size A.out HL.out 25
      obtain ⟨sa, sl, sc, rfl⟩ := own_slice ho
      have HG : Hid (IHolds V11 tb 27 [v1, v2, v3, v4, .string n, .string d, .int .i64 0]) := HS.out.grown4 ho hg ha
      obtain ⟨hs2, hk2⟩ := HS.out.put4 ho hg ha
      have HS2 : Hid (WS w (V11.setCell ⟨tb, 3, none⟩ (.slice sa sl sc)) P tb n d v1 v2 v3 (.slice sa sl sc) l1 l2 l3 (l4 ++ [(T1, T2)])) := hs2
      have HK2 : Hid (Kp P wr (V11.setCell ⟨tb, 3, none⟩ (.slice sa sl sc))) := HK.out.trans hk2
      clear hs2 hk2
      refine wp_append_at (.tmp 66) (.tmp 69) 25 rfl _ (.slice sa sl sc) _ rfl rfl hr ?_
      have HKM : Hid (Kp P wr V11) := HK.out.trans (fun g hp => hg.block g (HS.out.far g hp).1 (fun q => (HS.out.far g hp).2.2.2.2.2 q.symm))
      have HBM : Hid (Below w.heap.size w V11) := HS.out.below.grown hg HS.out.below.size (fun g hx => (HS.out.o4.lt g hx).1)
      clear HK HS hr ho hg ha A
      refine hK.out _ _ (trivial) (fun hH => ?_)
      clear hK K
      try simp only [Act.put, y1, y2, y3, y4, y5, y6, y7]
      clear HKM HBM
      refine tk (i := 6) (v := .pointer (some ⟨tb, 3, none⟩)) rfl (by kernel_rfl) (fun _ _ _ h => HP.out _ _ _ _ h) (by kernel_rfl) ?_ hH ?_
      · intro V hS
        go_simp
      simp only [Act.put, y1, y2, y3, y4, y5, y6, y7]
      refine wpAnyH_ready (rs := [7]) (by kernel_rfl) (by simp) ?_
      refine AllReadyH.cons rfl (fun K hK => ?_) AllReadyH.nil
      clear hH
      have z12 : V11.cell? ⟨tb, 3, none⟩ = some v4 := HG.out.cell 3 (by simp)
      have f12 : ∀ i, V11.frozen? ⟨tb, i, none⟩ = false := fun i => HG.out.frozen i
      go_simp
      clear z12 f12
      generalize (V11.setCell ⟨tb, 3, none⟩ (.slice sa sl sc)) = VV at *
      have HS := HS2
      have HK := HK2
      clear HS2 HK2 HG
      refine hK.out _ _ (trivial) (fun hH => ?_)
      clear hK K
      try simp only [Act.put, y1, y2, y3, y4, y5, y6, y7]
      refine wpAnyH_done (by kernel_rfl) ?_ _
      exact HQ.out _ _ _ _ _ _ _ _ _ HS.out HK.out
    · clear hH
      go_simp
      refine (C30.out V7 _ _ N1.out N2.out).mono ?_
      rintro e V13 ⟨rfl, hb⟩
      have HK2 : Hid (Kp P wr V13) := HK.out.trans (HS.out.kp hb)
      have HS2 : Hid (WS w V13 P tb n d v1 v2 v3 v4 l1 l2 l3 l4) := HS.out.of_below hb
      clear HS HK
      have HS := HS2
      have HK := HK2
      clear HS2 HK2
      replace N1 := aN N1 hb
      replace N2 := aN N2 hb
      clear hb
      refine hK.out _ _ (trivial) (fun hH => ?_)
      clear hK K
      try simp only [Act.put, y1, y2, y3, y4, y5, y6, y7]
      refine wpAnyH_ready (rs := [1, 4]) (by kernel_rfl) (by simp) ?_
      refine AllReadyH.cons rfl (fun K hK => ?_) (AllReadyH.cons rfl (fun K hK => ?_) AllReadyH.nil)
      · clear hH
        have z14 : V13.cell? ⟨tb, 3, none⟩ = some v4 := HS.out.hold.cell 3 (by simp)
        go_simp
        refine hK.out _ _ (trivial) (fun hH => ?_)
        clear hK K z14
        try simp only [Act.put, y1, y2, y3, y4, y5, y6, y7]
        refine wpAnyH_ready (rs := [4]) (by kernel_rfl) (by simp) ?_
        refine AllReadyH.cons rfl (fun K hK => ?_) AllReadyH.nil
        clear hH
        go_simp
        have hb : Below V13.heap.size V13 (V13.alloc (.cells #[.string T1, .string T2] 24)) := (Below.refl _ _).alloc (Nat.le_refl _) _
        have A : Hid (IHolds (V13.alloc (.cells #[.string T1, .string T2] 24)) V13.heap.size 24 [.string T1, .string T2]) := IHolds.new V13 24 _
        have HK2 : Hid (Kp P wr (V13.alloc (.cells #[.string T1, .string T2] 24))) := HK.out.trans (HS.out.kp hb)
        have HS2 : Hid (WS w (V13.alloc (.cells #[.string T1, .string T2] 24)) P tb n d v1 v2 v3 v4 l1 l2 l3 l4) := HS.out.of_below hb
        clear HS HK
        have HS := HS2
        have HK := HK2
        clear HS2 HK2
        replace N1 := aN N1 hb
        replace N2 := aN N2 hb
        clear hb
        refine hK.out _ _ (trivial) (fun hH => ?_)
        clear hK K
        try simp only [Act.put, y1, y2, y3, y4, y5, y6, y7]
        generalize (V13.alloc (.cells #[.string T1, .string T2] 24)) = V15 at *
        generalize V13.heap.size = ga at *
        refine wpAnyH_ready (rs := [5]) (by kernel_rfl) (by simp) ?_
        refine AllReadyH.cons rfl (fun K hK => ?_) AllReadyH.nil
        clear hH
        obtain ⟨v', V16, hr, ho, hg, ha⟩ := app24 HS.out.o4 HS.out.below.size A.out HL.out 25
        obtain ⟨sa, sl, sc, rfl⟩ := own_slice ho
        have HG : Hid (IHolds V16 tb 27 [v1, v2, v3, v4, .string n, .string d, .int .i64 0]) := HS.out.grown4 ho hg ha
        obtain ⟨hs2, hk2⟩ := HS.out.put4 ho hg ha
        have HS2 : Hid (WS w (V16.setCell ⟨tb, 3, none⟩ (.slice sa sl sc)) P tb n d v1 v2 v3 (.slice sa sl sc) l1 l2 l3 (l4 ++ [(T1, T2)])) := hs2
        have HK2 : Hid (Kp P wr (V16.setCell ⟨tb, 3, none⟩ (.slice sa sl sc))) := HK.out.trans hk2
        clear hs2 hk2
        refine wp_append_at (.tmp 66) (.tmp 69) 25 rfl _ (.slice sa sl sc) _ rfl rfl hr ?_
        have HKM : Hid (Kp P wr V16) := HK.out.trans (fun g hp => hg.block g (HS.out.far g hp).1 (fun q => (HS.out.far g hp).2.2.2.2.2 q.symm))
        have HBM : Hid (Below w.heap.size w V16) := HS.out.below.grown hg HS.out.below.size (fun g hx => (HS.out.o4.lt g hx).1)
        clear HK HS hr ho hg ha A
        refine hK.out _ _ (trivial) (fun hH => ?_)
        clear hK K
        try simp only [Act.put, y1, y2, y3, y4, y5, y6, y7]
        clear HKM HBM
        refine tk (i := 6) (v := .pointer (some ⟨tb, 3, none⟩)) rfl (by kernel_rfl) (fun _ _ _ h => HP.out _ _ _ _ h) (by kernel_rfl) ?_ hH ?_
        · intro V hS
          go_simp
        simp only [Act.put, y1, y2, y3, y4, y5, y6, y7]
        refine wpAnyH_ready (rs := [7]) (by kernel_rfl) (by simp) ?_
        refine AllReadyH.cons rfl (fun K hK => ?_) AllReadyH.nil
        clear hH
        have z17 : V16.cell? ⟨tb, 3, none⟩ = some v4 := HG.out.cell 3 (by simp)
        have f17 : ∀ i, V16.frozen? ⟨tb, i, none⟩ = false := fun i => HG.out.frozen i
        go_simp
        clear z17 f17
        generalize (V16.setCell ⟨tb, 3, none⟩ (.slice sa sl sc)) = VV at *
        have HS := HS2
        have HK := HK2
        clear HS2 HK2 HG
        refine hK.out _ _ (trivial) (fun hH => ?_)
        clear hK K
        try simp only [Act.put, y1, y2, y3, y4, y5, y6, y7]
        refine wpAnyH_done (by kernel_rfl) ?_ _
        exact HQ.out _ _ _ _ _ _ _ _ _ HS.out HK.out
      · clear hH
        go_simp
        have hb : Below V13.heap.size V13 (V13.alloc (.cells #[.string T1, .string T2] 24)) := (Below.refl _ _).alloc (Nat.le_refl _) _
        have A : Hid (IHolds (V13.alloc (.cells #[.string T1, .string T2] 24)) V13.heap.size 24 [.string T1, .string T2]) := IHolds.new V13 24 _
        have HK2 : Hid (Kp P wr (V13.alloc (.cells #[.string T1, .string T2] 24))) := HK.out.trans (HS.out.kp hb)
        have HS2 : Hid (WS w (V13.alloc (.cells #[.string T1, .string T2] 24)) P tb n d v1 v2 v3 v4 l1 l2 l3 l4) := HS.out.of_below hb
        clear HS HK
        have HS := HS2
        have HK := HK2
        clear HS2 HK2
        replace N1 := aN N1 hb
        replace N2 := aN N2 hb
        clear hb
        refine hK.out _ _ (trivial) (fun hH => ?_)
        clear hK K
        try simp only [Act.put, y1, y2, y3, y4, y5, y6, y7]
        generalize (V13.alloc (.cells #[.string T1, .string T2] 24)) = V18 at *
        generalize V13.heap.size = ga at *
        refine wpAnyH_ready (rs := [1]) (by kernel_rfl) (by simp) ?_
        refine AllReadyH.cons rfl (fun K hK => ?_) AllReadyH.nil
        clear hH
        have z19 : V18.cell? ⟨tb, 3, none⟩ = some v4 := HS.out.hold.cell 3 (by simp)
        go_simp
        refine hK.out _ _ (trivial) (fun hH => ?_)
        clear hK K z19
        try simp only [Act.put, y1, y2, y3, y4, y5, y6, y7]
        refine wpAnyH_ready (rs := [5]) (by kernel_rfl) (by simp) ?_
        refine AllReadyH.cons rfl (fun K hK => ?_) AllReadyH.nil
        clear hH
        obtain ⟨v', V20, hr, ho, hg, ha⟩ := app24 HS.out.o4 HS.out.below.size A.out HL.out 25
        obtain ⟨sa, sl, sc, rfl⟩ := own_slice ho
        have HG : Hid (IHolds V20 tb 27 [v1, v2, v3, v4, .string n, .string d, .int .i64 0]) := HS.out.grown4 ho hg ha
        obtain ⟨hs2, hk2⟩ := HS.out.put4 ho hg ha
        have HS2 : Hid (WS w (V20.setCell ⟨tb, 3, none⟩ (.slice sa sl sc)) P tb n d v1 v2 v3 (.slice sa sl sc) l1 l2 l3 (l4 ++ [(T1, T2)])) := hs2
        have HK2 : Hid (Kp P wr (V20.setCell ⟨tb, 3, none⟩ (.slice sa sl sc))) := HK.out.trans hk2
        clear hs2 hk2
        refine wp_append_at (.tmp 66) (.tmp 69) 25 rfl _ (.slice sa sl sc) _ rfl rfl hr ?_
        have HKM : Hid (Kp P wr V20) := HK.out.trans (fun g hp => hg.block g (HS.out.far g hp).1 (fun q => (HS.out.far g hp).2.2.2.2.2 q.symm))
        have HBM : Hid (Below w.heap.size w V20) := HS.out.below.grown hg HS.out.below.size (fun g hx => (HS.out.o4.lt g hx).1)
        clear HK HS hr ho hg ha A
        refine hK.out _ _ (trivial) (fun hH => ?_)
        clear hK K
        try simp only [Act.put, y1, y2, y3, y4, y5, y6, y7]
        clear HKM HBM
        refine tk (i := 6) (v := .pointer (some ⟨tb, 3, none⟩)) rfl (by kernel_rfl) (fun _ _ _ h => HP.out _ _ _ _ h) (by kernel_rfl) ?_ hH ?_
        · intro V hS
          go_simp
        simp only [Act.put, y1, y2, y3, y4, y5, y6, y7]
        refine wpAnyH_ready (rs := [7]) (by kernel_rfl) (by simp) ?_
        refine AllReadyH.cons rfl (fun K hK => ?_) AllReadyH.nil
        clear hH
        have z21 : V20.cell? ⟨tb, 3, none⟩ = some v4 := HG.out.cell 3 (by simp)
        have f21 : ∀ i, V20.frozen? ⟨tb, i, none⟩ = false := fun i => HG.out.frozen i
        go_simp
        clear z21 f21
        generalize (V20.setCell ⟨tb, 3, none⟩ (.slice sa sl sc)) = VV at *
        have HS := HS2
        have HK := HK2
        clear HS2 HK2 HG
        refine hK.out _ _ (trivial) (fun hH => ?_)
        clear hK K
        try simp only [Act.put, y1, y2, y3, y4, y5, y6, y7]
        refine wpAnyH_done (by kernel_rfl) ?_ _
        exact HQ.out _ _ _ _ _ _ _ _ _ HS.out HK.out
end Go.Proofs.YtflabehlaiocaaaDoor
