/- The document: a row more. -/
import Derived.Test.YtflabehlaiocaaaDoorGn
set_option linter.unusedSimpArgs false
set_option linter.unusedVariables false
set_option maxRecDepth 100000
namespace Go.Proofs.YtflabehlaiocaaaDoor
open Go.RowKit Go.Deep Go.PlainAid

def rd30 : Code := Go.Code.region 30 #[{ dst := some 124, op := Go.Op.fieldAddr 27 (Go.Operand.tmp 14) 2, type := 0, pos := "ref.go:101", after := #[], guard := none }, { dst := some 125, op := Go.Op.load 25 (Go.Operand.tmp 124), type := 25, pos := "ref.go:101", after := #[{ on := 0, ground := Go.Ground.data }], guard := none }, { dst := some 126, op := Go.Op.move (Go.Operand.tmp 0), type := 22, pos := "ref.go:101", after := #[], guard := none }, { dst := some 127, op := Go.Op.move (Go.Operand.tmp 16), type := 3, pos := "ref.go:101", after := #[], guard := none }, { dst := some 128, op := Go.Op.indexAddr 22 (Go.Operand.tmp 126) (Go.Operand.tmp 127), type := 0, pos := "ref.go:101", after := #[{ on := 2, ground := Go.Ground.data }, { on := 3, ground := Go.Ground.data }], guard := none }, { dst := some 129, op := Go.Op.load 3 (Go.Operand.tmp 128), type := 3, pos := "ref.go:101", after := #[{ on := 4, ground := Go.Ground.data }], guard := none }, { dst := some 130, op := Go.Op.move (Go.Operand.tmp 0), type := 22, pos := "ref.go:101", after := #[], guard := none }, { dst := some 131, op := Go.Op.move (Go.Operand.tmp 17), type := 3, pos := "ref.go:101", after := #[], guard := none }, { dst := some 132, op := Go.Op.indexAddr 22 (Go.Operand.tmp 130) (Go.Operand.tmp 131), type := 0, pos := "ref.go:101", after := #[{ on := 6, ground := Go.Ground.data }, { on := 7, ground := Go.Ground.data }], guard := none }, { dst := some 133, op := Go.Op.load 3 (Go.Operand.tmp 132), type := 3, pos := "ref.go:101", after := #[{ on := 8, ground := Go.Ground.data }], guard := none }, { dst := some 134, op := Go.Op.call { callee := Go.Callee.value (Go.Operand.func 16), args := #[Go.Operand.tmp 129, Go.Operand.tmp 133], argTypes := #[3, 3] }, type := 46, pos := "ref.go:101", after := #[{ on := 5, ground := Go.Ground.data }, { on := 9, ground := Go.Ground.data }], guard := none }, { dst := some 135, op := Go.Op.call { callee := Go.Callee.value (Go.Operand.func 15), args := #[Go.Operand.tmp 134], argTypes := #[46] }, type := 24, pos := "ref.go:101", after := #[{ on := 10, ground := Go.Ground.data }, { on := 10, ground := Go.Ground.chain }], guard := none }, { dst := some 136, op := Go.Op.buildSlice 25 1 #[(0, Go.Operand.tmp 135)], type := 25, pos := "ref.go:101", after := #[{ on := 11, ground := Go.Ground.data }], guard := none }, { dst := some 137, op := Go.Op.call { callee := Go.Callee.builtin Go.Builtin.append, args := #[Go.Operand.tmp 125, Go.Operand.tmp 136], argTypes := #[25, 25] }, type := 25, pos := "ref.go:101", after := #[{ on := 1, ground := Go.Ground.data }, { on := 12, ground := Go.Ground.data }, { on := 11, ground := Go.Ground.chain }], guard := none }, { dst := some 138, op := Go.Op.fieldAddr 27 (Go.Operand.tmp 14) 2, type := 0, pos := "ref.go:101", after := #[{ on := 0, ground := Go.Ground.phase }, { on := 1, ground := Go.Ground.phase }, { on := 2, ground := Go.Ground.phase }, { on := 3, ground := Go.Ground.phase }, { on := 4, ground := Go.Ground.phase }, { on := 5, ground := Go.Ground.phase }, { on := 6, ground := Go.Ground.phase }, { on := 7, ground := Go.Ground.phase }, { on := 8, ground := Go.Ground.phase }, { on := 9, ground := Go.Ground.phase }, { on := 10, ground := Go.Ground.phase }, { on := 11, ground := Go.Ground.phase }, { on := 12, ground := Go.Ground.phase }, { on := 13, ground := Go.Ground.phase }], guard := none }, { dst := none, op := Go.Op.store 25 (Go.Operand.tmp 138) (Go.Operand.tmp 137), type := 0, pos := "ref.go:101", after := #[{ on := 14, ground := Go.Ground.data }, { on := 13, ground := Go.Ground.data }, { on := 13, ground := Go.Ground.chain }, { on := 0, ground := Go.Ground.phase }, { on := 1, ground := Go.Ground.phase }, { on := 2, ground := Go.Ground.phase }, { on := 3, ground := Go.Ground.phase }, { on := 4, ground := Go.Ground.phase }, { on := 5, ground := Go.Ground.phase }, { on := 6, ground := Go.Ground.phase }, { on := 7, ground := Go.Ground.phase }, { on := 8, ground := Go.Ground.phase }, { on := 9, ground := Go.Ground.phase }, { on := 10, ground := Go.Ground.phase }, { on := 11, ground := Go.Ground.phase }, { on := 12, ground := Go.Ground.phase }, { on := 13, ground := Go.Ground.phase }], guard := none }] true
set_option maxHeartbeats 8000000 in
theorem rd30_wp {w wr : World} {df : List Deferred} {P : Nat → Prop} {tb : Nat} {n d T1 T2 : ByteArray} {v1 v2 v3 v4 : Value} {l1 l2 : List Int} {l3 l4 : List (ByteArray × ByteArray)} {at_ ot N ct i k x y A D : Nat} {Q : Exit → Act → World → Prop} {t1 t2 t3 t4 t5 t6 t7 t8 t9 t10 t11 t12 t13 t15 t18 t19 t20 t21 t22 t23 t24 t25 t26 t27 t28 t29 t30 t31 t32 t33 t34 t35 t36 t37 t38 t39 t40 t41 t42 t43 t44 t45 t46 t47 t48 t49 t50 t51 t52 t53 t54 t55 t56 t57 t58 t59 t60 t61 t62 t63 t64 t65 t66 t67 t68 t69 t70 t71 t72 t73 t74 t75 t76 t77 t78 t79 t80 t81 t82 t83 t84 t85 t86 t87 t88 t89 t90 t91 t92 t93 t94 t95 t96 t97 t98 t99 t100 t101 t102 t103 t104 t105 t106 t107 t108 t109 t110 t111 t112 t113 t114 t115 t116 t117 t118 t119 t120 t121 t122 t123 t124 t125 t126 t127 t128 t129 t130 t131 t132 t133 t134 t135 t136 t137 t138 t139 t140 t141 t142 t143 t144 t145 t146 t147 t148 : Value}
    (hws : WS w wr P tb n d v1 v2 v3 v4 l1 l2 l3 l4) (hl : l3.length ≤ 4000) (il : (i : Int) < (N : Int)) (kl : (k : Int) < (N : Int)) (c1 : ∀ V, Below w.heap.size w V → V.cell? ⟨at_, ot + i, none⟩ = some (.int .i64 (x : Int)))
    (c2 : ∀ V, Below w.heap.size w V → V.cell? ⟨at_, ot + k, none⟩ = some (.int .i64 (y : Int)))
    (c26 : ∀ V, Calls Tryd.prog 16 #[.int .i64 (x : Int), .int .i64 (y : Int)] V fun e w' => (∃ u1 u2, e = .returned (.agg #[u1, u2]) ∧ NumV w' 10 A u1 ∧ NumV w' 10 D u2) ∧ Below V.heap.size V w')
    (c30 : ∀ V u1 u2, NumV V 10 A u1 → NumV V 10 D u2 → Calls Tryd.prog 15 #[.agg #[u1, u2]] V fun e w' => e = .returned (.agg #[.string T1, .string T2]) ∧ Below V.heap.size V w')
    (hQp : ∀ c a a' w, Q (.panic c) a w → Q (.panic c) a' w) (hQ : ∀ u124 u125 u126 u127 u128 u129 u130 u131 u132 u133 u134 u135 u136 u137 u138 v' W, WS w W P tb n d v1 v2 v' v4 l1 l2 (l3 ++ [(T1, T2)]) l4 → Kp P wr W → Q .normal ⟨#[.slice (some ⟨at_, ot, none⟩) N ct, t1, t2, t3, t4, t5, t6, t7, t8, t9, t10, t11, t12, t13, .pointer (some ⟨tb, 0, none⟩), t15, .int .i64 (i : Int), .int .i64 (k : Int), t18, t19, t20, t21, t22, t23, t24, t25, t26, t27, t28, t29, t30, t31, t32, t33, t34, t35, t36, t37, t38, t39, t40, t41, t42, t43, t44, t45, t46, t47, t48, t49, t50, t51, t52, t53, t54, t55, t56, t57, t58, t59, t60, t61, t62, t63, t64, t65, t66, t67, t68, t69, t70, t71, t72, t73, t74, t75, t76, t77, t78, t79, t80, t81, t82, t83, t84, t85, t86, t87, t88, t89, t90, t91, t92, t93, t94, t95, t96, t97, t98, t99, t100, t101, t102, t103, t104, t105, t106, t107, t108, t109, t110, t111, t112, t113, t114, t115, t116, t117, t118, t119, t120, t121, t122, t123, u124, u125, u126, u127, u128, u129, u130, u131, u132, u133, u134, u135, u136, u137, u138, t139, t140, t141, t142, t143, t144, t145, t146, t147, t148], df⟩ W) :
    rd30.wp Tryd.prog Q ⟨#[.slice (some ⟨at_, ot, none⟩) N ct, t1, t2, t3, t4, t5, t6, t7, t8, t9, t10, t11, t12, t13, .pointer (some ⟨tb, 0, none⟩), t15, .int .i64 (i : Int), .int .i64 (k : Int), t18, t19, t20, t21, t22, t23, t24, t25, t26, t27, t28, t29, t30, t31, t32, t33, t34, t35, t36, t37, t38, t39, t40, t41, t42, t43, t44, t45, t46, t47, t48, t49, t50, t51, t52, t53, t54, t55, t56, t57, t58, t59, t60, t61, t62, t63, t64, t65, t66, t67, t68, t69, t70, t71, t72, t73, t74, t75, t76, t77, t78, t79, t80, t81, t82, t83, t84, t85, t86, t87, t88, t89, t90, t91, t92, t93, t94, t95, t96, t97, t98, t99, t100, t101, t102, t103, t104, t105, t106, t107, t108, t109, t110, t111, t112, t113, t114, t115, t116, t117, t118, t119, t120, t121, t122, t123, t124, t125, t126, t127, t128, t129, t130, t131, t132, t133, t134, t135, t136, t137, t138, t139, t140, t141, t142, t143, t144, t145, t146, t147, t148], df⟩ wr := by
  have HP : Hid (∀ c a a' w, Q (.panic c) a w → Q (.panic c) a' w) := hQp
  have HQ : Hid (∀ u124 u125 u126 u127 u128 u129 u130 u131 u132 u133 u134 u135 u136 u137 u138 v' W, WS w W P tb n d v1 v2 v' v4 l1 l2 (l3 ++ [(T1, T2)]) l4 → Kp P wr W → Q .normal ⟨#[.slice (some ⟨at_, ot, none⟩) N ct, t1, t2, t3, t4, t5, t6, t7, t8, t9, t10, t11, t12, t13, .pointer (some ⟨tb, 0, none⟩), t15, .int .i64 (i : Int), .int .i64 (k : Int), t18, t19, t20, t21, t22, t23, t24, t25, t26, t27, t28, t29, t30, t31, t32, t33, t34, t35, t36, t37, t38, t39, t40, t41, t42, t43, t44, t45, t46, t47, t48, t49, t50, t51, t52, t53, t54, t55, t56, t57, t58, t59, t60, t61, t62, t63, t64, t65, t66, t67, t68, t69, t70, t71, t72, t73, t74, t75, t76, t77, t78, t79, t80, t81, t82, t83, t84, t85, t86, t87, t88, t89, t90, t91, t92, t93, t94, t95, t96, t97, t98, t99, t100, t101, t102, t103, t104, t105, t106, t107, t108, t109, t110, t111, t112, t113, t114, t115, t116, t117, t118, t119, t120, t121, t122, t123, u124, u125, u126, u127, u128, u129, u130, u131, u132, u133, u134, u135, u136, u137, u138, t139, t140, t141, t142, t143, t144, t145, t146, t147, t148], df⟩ W) := hQ
  have HS : Hid (WS w wr.drew P tb n d v1 v2 v3 v4 l1 l2 l3 l4) := hws.of_below (dB wr)
  have HK : Hid (Kp P wr wr.drew) := hws.kp (dB wr)
  have HL : Hid (l3.length ≤ 4000) := hl
  have CE1 : Hid (∀ V, Below w.heap.size w V → V.cell? ⟨at_, ot + i, none⟩ = some (.int .i64 (x : Int))) := c1
  have CE2 : Hid (∀ V, Below w.heap.size w V → V.cell? ⟨at_, ot + k, none⟩ = some (.int .i64 (y : Int))) := c2
  have C26 : Hid (∀ V, Calls Tryd.prog 16 #[.int .i64 (x : Int), .int .i64 (y : Int)] V fun e w' => (∃ u1 u2, e = .returned (.agg #[u1, u2]) ∧ NumV w' 10 A u1 ∧ NumV w' 10 D u2) ∧ Below V.heap.size V w') := c26
  have C30 : Hid (∀ V u1 u2, NumV V 10 A u1 → NumV V 10 D u2 → Calls Tryd.prog 15 #[.agg #[u1, u2]] V fun e w' => e = .returned (.agg #[.string T1, .string T2]) ∧ Below V.heap.size V w') := c30
  clear c26 c30 c1 c2
  clear hQ hQp hws hl
  unfold rd30
  refine wp_region_held_drew (S := fun V => Below w.heap.size w V) (by kernel_rfl) (HS.out.below) (fun hH => ?_)
  generalize wr.drew = V0 at *
  refine tk (i := 0) (v := .pointer (some ⟨tb, 2, none⟩)) rfl (by kernel_rfl) (fun _ _ _ h => HP.out _ _ _ _ h) (by kernel_rfl) ?_ hH ?_
  · intro V hS
    go_simp
  simp only [Act.put, y1, y2, y3, y4, y5, y6, y7]
  refine tk (i := 2) (v := .slice (some ⟨at_, ot, none⟩) N ct) rfl (by kernel_rfl) (fun _ _ _ h => HP.out _ _ _ _ h) (by kernel_rfl) ?_ hH ?_
  · intro V hS
    go_simp
  simp only [Act.put, y1, y2, y3, y4, y5, y6, y7]
  refine tk (i := 3) (v := .int .i64 (i : Int)) rfl (by kernel_rfl) (fun _ _ _ h => HP.out _ _ _ _ h) (by kernel_rfl) ?_ hH ?_
  · intro V hS
    go_simp
  simp only [Act.put, y1, y2, y3, y4, y5, y6, y7]
  refine tk (i := 6) (v := .slice (some ⟨at_, ot, none⟩) N ct) rfl (by kernel_rfl) (fun _ _ _ h => HP.out _ _ _ _ h) (by kernel_rfl) ?_ hH ?_
  · intro V hS
    go_simp
  simp only [Act.put, y1, y2, y3, y4, y5, y6, y7]
  refine tk (i := 7) (v := .int .i64 (k : Int)) rfl (by kernel_rfl) (fun _ _ _ h => HP.out _ _ _ _ h) (by kernel_rfl) ?_ hH ?_
  · intro V hS
    go_simp
  simp only [Act.put, y1, y2, y3, y4, y5, y6, y7]
  refine tk (i := 4) (v := .pointer (some ⟨at_, ot + i, none⟩)) rfl (by kernel_rfl) (fun _ _ _ h => HP.out _ _ _ _ h) (by kernel_rfl) ?_ hH ?_
  · intro V hS
    go_simp
  simp only [Act.put, y1, y2, y3, y4, y5, y6, y7]
  refine tk (i := 8) (v := .pointer (some ⟨at_, ot + k, none⟩)) rfl (by kernel_rfl) (fun _ _ _ h => HP.out _ _ _ _ h) (by kernel_rfl) ?_ hH ?_
  · intro V hS
    go_simp
  simp only [Act.put, y1, y2, y3, y4, y5, y6, y7]
  refine tk (i := 5) (v := .int .i64 (x : Int)) rfl (by kernel_rfl) (fun _ _ _ h => HP.out _ _ _ _ h) (by kernel_rfl) ?_ hH ?_
  · intro V hS
    have z := CE1.out V hS
    go_simp
  simp only [Act.put, y1, y2, y3, y4, y5, y6, y7]
  refine tk (i := 9) (v := .int .i64 (y : Int)) rfl (by kernel_rfl) (fun _ _ _ h => HP.out _ _ _ _ h) (by kernel_rfl) ?_ hH ?_
  · intro V hS
    have z := CE2.out V hS
    go_simp
  simp only [Act.put, y1, y2, y3, y4, y5, y6, y7]
  refine wpAnyH_ready (rs := [1, 10]) (by kernel_rfl) (by simp) ?_
  refine AllReadyH.cons rfl (fun K hK => ?_) (AllReadyH.cons rfl (fun K hK => ?_) AllReadyH.nil)
  · clear hH
    have z1 : V0.cell? ⟨tb, 2, none⟩ = some v3 := HS.out.hold.cell 2 (by simp)
    go_simp
    refine hK.out _ _ (HS.out.below) (fun hH => ?_)
    clear hK K z1
    try simp only [Act.put, y1, y2, y3, y4, y5, y6, y7]
    refine wpAnyH_ready (rs := [10]) (by kernel_rfl) (by simp) ?_
    refine AllReadyH.cons rfl (fun K hK => ?_) AllReadyH.nil
    clear hH
    go_simp
    refine (C26.out V0 ).mono ?_
    rintro e V2 ⟨⟨x1, x2, rfl, n1, n2⟩, hb⟩
    have N1 : Hid (NumV V2 _ _ x1) := n1
    have N2 : Hid (NumV V2 _ _ x2) := n2
    clear n1 n2
    have HK2 : Hid (Kp P wr V2) := HK.out.trans (HS.out.kp hb)
    have HS2 : Hid (WS w V2 P tb n d v1 v2 v3 v4 l1 l2 l3 l4) := HS.out.of_below hb
    clear HS HK
    have HS := HS2
    have HK := HK2
    clear HS2 HK2
    clear hb
    refine hK.out _ _ (HS.out.below) (fun hH => ?_)
    clear hK K
    try simp only [Act.put, y1, y2, y3, y4, y5, y6, y7]
    refine wpAnyH_ready (rs := [11]) (by kernel_rfl) (by simp) ?_
    refine AllReadyH.cons rfl (fun K hK => ?_) AllReadyH.nil
    clear hH
    go_simp
    refine (C30.out V2 _ _ N1.out N2.out).mono ?_
    rintro e V3 ⟨rfl, hb⟩
    have HK2 : Hid (Kp P wr V3) := HK.out.trans (HS.out.kp hb)
    have HS2 : Hid (WS w V3 P tb n d v1 v2 v3 v4 l1 l2 l3 l4) := HS.out.of_below hb
    clear HS HK
    have HS := HS2
    have HK := HK2
    clear HS2 HK2
    replace N1 := aN N1 hb
    replace N2 := aN N2 hb
    clear hb
    refine hK.out _ _ (HS.out.below) (fun hH => ?_)
    clear hK K
    try simp only [Act.put, y1, y2, y3, y4, y5, y6, y7]
    refine wpAnyH_ready (rs := [12]) (by kernel_rfl) (by simp) ?_
    refine AllReadyH.cons rfl (fun K hK => ?_) AllReadyH.nil
    clear hH
    go_simp
    have hb : Below V3.heap.size V3 (V3.alloc (.cells #[.string T1, .string T2] 24)) := (Below.refl _ _).alloc (Nat.le_refl _) _
    have A : Hid (IHolds (V3.alloc (.cells #[.string T1, .string T2] 24)) V3.heap.size 24 [.string T1, .string T2]) := IHolds.new V3 24 _
    have HK2 : Hid (Kp P wr (V3.alloc (.cells #[.string T1, .string T2] 24))) := HK.out.trans (HS.out.kp hb)
    have HS2 : Hid (WS w (V3.alloc (.cells #[.string T1, .string T2] 24)) P tb n d v1 v2 v3 v4 l1 l2 l3 l4) := HS.out.of_below hb
    clear HS HK
    have HS := HS2
    have HK := HK2
    clear HS2 HK2
    replace N1 := aN N1 hb
    replace N2 := aN N2 hb
    clear hb
    refine hK.out _ _ (HS.out.below) (fun hH => ?_)
    clear hK K
    try simp only [Act.put, y1, y2, y3, y4, y5, y6, y7]
    generalize (V3.alloc (.cells #[.string T1, .string T2] 24)) = V4 at *
    generalize V3.heap.size = ga at *
    refine wpAnyH_ready (rs := [13]) (by kernel_rfl) (by simp) ?_
    refine AllReadyH.cons rfl (fun K hK => ?_) AllReadyH.nil
    clear hH
    obtain ⟨v', V5, hr, ho, hg, ha⟩ := app24 HS.out.o3 HS.out.below.size A.out HL.out 25
    obtain ⟨sa, sl, sc, rfl⟩ := own_slice ho
    have HG : Hid (IHolds V5 tb 27 [v1, v2, v3, v4, .string n, .string d, .int .i64 0]) := HS.out.grown3 ho hg ha
    obtain ⟨hs2, hk2⟩ := HS.out.put3 ho hg ha
    have HS2 : Hid (WS w (V5.setCell ⟨tb, 2, none⟩ (.slice sa sl sc)) P tb n d v1 v2 (.slice sa sl sc) v4 l1 l2 (l3 ++ [(T1, T2)]) l4) := hs2
    have HK2 : Hid (Kp P wr (V5.setCell ⟨tb, 2, none⟩ (.slice sa sl sc))) := HK.out.trans hk2
    clear hs2 hk2
    refine wp_append_at (.tmp 125) (.tmp 136) 25 rfl _ (.slice sa sl sc) _ rfl rfl hr ?_
    have HKM : Hid (Kp P wr V5) := HK.out.trans (fun g hp => hg.block g (HS.out.far g hp).1 (fun q => (HS.out.far g hp).2.2.2.2.1 q.symm))
    have HBM : Hid (Below w.heap.size w V5) := HS.out.below.grown hg HS.out.below.size (fun g hx => (HS.out.o3.lt g hx).1)
    clear HK HS hr ho hg ha A
    refine hK.out _ _ (HBM.out) (fun hH => ?_)
    clear hK K
    try simp only [Act.put, y1, y2, y3, y4, y5, y6, y7]
    clear HKM HBM
    refine tk (i := 14) (v := .pointer (some ⟨tb, 2, none⟩)) rfl (by kernel_rfl) (fun _ _ _ h => HP.out _ _ _ _ h) (by kernel_rfl) ?_ hH ?_
    · intro V hS
      go_simp
    simp only [Act.put, y1, y2, y3, y4, y5, y6, y7]
    refine wpAnyH_ready (rs := [15]) (by kernel_rfl) (by simp) ?_
    refine AllReadyH.cons rfl (fun K hK => ?_) AllReadyH.nil
    clear hH
    have z6 : V5.cell? ⟨tb, 2, none⟩ = some v3 := HG.out.cell 2 (by simp)
    have f6 : ∀ i, V5.frozen? ⟨tb, i, none⟩ = false := fun i => HG.out.frozen i
    go_simp
    clear z6 f6
    generalize (V5.setCell ⟨tb, 2, none⟩ (.slice sa sl sc)) = VV at *
    have HS := HS2
    have HK := HK2
    clear HS2 HK2 HG
    refine hK.out _ _ (HS.out.below) (fun hH => ?_)
    clear hK K
    try simp only [Act.put, y1, y2, y3, y4, y5, y6, y7]
    refine wpAnyH_done (by kernel_rfl) ?_ _
    exact HQ.out _ _ _ _ _ _ _ _ _ _ _ _ _ _ _ _ _ HS.out HK.out
  · clear hH
    go_simp
    refine (C26.out V0 ).mono ?_
    rintro e V7 ⟨⟨x1, x2, rfl, n1, n2⟩, hb⟩
    have N1 : Hid (NumV V7 _ _ x1) := n1
    have N2 : Hid (NumV V7 _ _ x2) := n2
    clear n1 n2
    have HK2 : Hid (Kp P wr V7) := HK.out.trans (HS.out.kp hb)
    have HS2 : Hid (WS w V7 P tb n d v1 v2 v3 v4 l1 l2 l3 l4) := HS.out.of_below hb
    clear HS HK
    have HS := HS2
    have HK := HK2
    clear HS2 HK2
    clear hb
    refine hK.out _ _ (HS.out.below) (fun hH => ?_)
    clear hK K
    try simp only [Act.put, y1, y2, y3, y4, y5, y6, y7]
    refine wpAnyH_ready (rs := [1, 11]) (by kernel_rfl) (by simp) ?_
    refine AllReadyH.cons rfl (fun K hK => ?_) (AllReadyH.cons rfl (fun K hK => ?_) AllReadyH.nil)
    · clear hH
      have z8 : V7.cell? ⟨tb, 2, none⟩ = some v3 := HS.out.hold.cell 2 (by simp)
      go_simp
      refine hK.out _ _ (HS.out.below) (fun hH => ?_)
      clear hK K z8
      try simp only [Act.put, y1, y2, y3, y4, y5, y6, y7]
      refine wpAnyH_ready (rs := [11]) (by kernel_rfl) (by simp) ?_
      refine AllReadyH.cons rfl (fun K hK => ?_) AllReadyH.nil
      clear hH
      go_simp
      refine (C30.out V7 _ _ N1.out N2.out).mono ?_
      rintro e V9 ⟨rfl, hb⟩
      have HK2 : Hid (Kp P wr V9) := HK.out.trans (HS.out.kp hb)
      have HS2 : Hid (WS w V9 P tb n d v1 v2 v3 v4 l1 l2 l3 l4) := HS.out.of_below hb
      clear HS HK
      have HS := HS2
      have HK := HK2
      clear HS2 HK2
      replace N1 := aN N1 hb
      replace N2 := aN N2 hb
      clear hb
      refine hK.out _ _ (HS.out.below) (fun hH => ?_)
      clear hK K
      try simp only [Act.put, y1, y2, y3, y4, y5, y6, y7]
      refine wpAnyH_ready (rs := [12]) (by kernel_rfl) (by simp) ?_
      refine AllReadyH.cons rfl (fun K hK => ?_) AllReadyH.nil
      clear hH
      go_simp
      have hb : Below V9.heap.size V9 (V9.alloc (.cells #[.string T1, .string T2] 24)) := (Below.refl _ _).alloc (Nat.le_refl _) _
      have A : Hid (IHolds (V9.alloc (.cells #[.string T1, .string T2] 24)) V9.heap.size 24 [.string T1, .string T2]) := IHolds.new V9 24 _
      have HK2 : Hid (Kp P wr (V9.alloc (.cells #[.string T1, .string T2] 24))) := HK.out.trans (HS.out.kp hb)
      have HS2 : Hid (WS w (V9.alloc (.cells #[.string T1, .string T2] 24)) P tb n d v1 v2 v3 v4 l1 l2 l3 l4) := HS.out.of_below hb
      clear HS HK
      have HS := HS2
      have HK := HK2
      clear HS2 HK2
      replace N1 := aN N1 hb
      replace N2 := aN N2 hb
      clear hb
      refine hK.out _ _ (HS.out.below) (fun hH => ?_)
      clear hK K
      try simp only [Act.put, y1, y2, y3, y4, y5, y6, y7]
      generalize (V9.alloc (.cells #[.string T1, .string T2] 24)) = V10 at *
      generalize V9.heap.size = ga at *
      refine wpAnyH_ready (rs := [13]) (by kernel_rfl) (by simp) ?_
      refine AllReadyH.cons rfl (fun K hK => ?_) AllReadyH.nil
      clear hH
      obtain ⟨v', V11, hr, ho, hg, ha⟩ := app24 HS.out.o3 HS.out.below.size A.out HL.out 25
      obtain ⟨sa, sl, sc, rfl⟩ := own_slice ho
      have HG : Hid (IHolds V11 tb 27 [v1, v2, v3, v4, .string n, .string d, .int .i64 0]) := HS.out.grown3 ho hg ha
      obtain ⟨hs2, hk2⟩ := HS.out.put3 ho hg ha
      have HS2 : Hid (WS w (V11.setCell ⟨tb, 2, none⟩ (.slice sa sl sc)) P tb n d v1 v2 (.slice sa sl sc) v4 l1 l2 (l3 ++ [(T1, T2)]) l4) := hs2
      have HK2 : Hid (Kp P wr (V11.setCell ⟨tb, 2, none⟩ (.slice sa sl sc))) := HK.out.trans hk2
      clear hs2 hk2
      refine wp_append_at (.tmp 125) (.tmp 136) 25 rfl _ (.slice sa sl sc) _ rfl rfl hr ?_
      have HKM : Hid (Kp P wr V11) := HK.out.trans (fun g hp => hg.block g (HS.out.far g hp).1 (fun q => (HS.out.far g hp).2.2.2.2.1 q.symm))
      have HBM : Hid (Below w.heap.size w V11) := HS.out.below.grown hg HS.out.below.size (fun g hx => (HS.out.o3.lt g hx).1)
      clear HK HS hr ho hg ha A
      refine hK.out _ _ (HBM.out) (fun hH => ?_)
      clear hK K
      try simp only [Act.put, y1, y2, y3, y4, y5, y6, y7]
      clear HKM HBM
      refine tk (i := 14) (v := .pointer (some ⟨tb, 2, none⟩)) rfl (by kernel_rfl) (fun _ _ _ h => HP.out _ _ _ _ h) (by kernel_rfl) ?_ hH ?_
      · intro V hS
        go_simp
      simp only [Act.put, y1, y2, y3, y4, y5, y6, y7]
      refine wpAnyH_ready (rs := [15]) (by kernel_rfl) (by simp) ?_
      refine AllReadyH.cons rfl (fun K hK => ?_) AllReadyH.nil
      clear hH
      have z12 : V11.cell? ⟨tb, 2, none⟩ = some v3 := HG.out.cell 2 (by simp)
      have f12 : ∀ i, V11.frozen? ⟨tb, i, none⟩ = false := fun i => HG.out.frozen i
      go_simp
      clear z12 f12
      generalize (V11.setCell ⟨tb, 2, none⟩ (.slice sa sl sc)) = VV at *
      have HS := HS2
      have HK := HK2
      clear HS2 HK2 HG
      refine hK.out _ _ (HS.out.below) (fun hH => ?_)
      clear hK K
      try simp only [Act.put, y1, y2, y3, y4, y5, y6, y7]
      refine wpAnyH_done (by kernel_rfl) ?_ _
      exact HQ.out _ _ _ _ _ _ _ _ _ _ _ _ _ _ _ _ _ HS.out HK.out
    · clear hH
      go_simp
      refine (C30.out V7 _ _ N1.out N2.out).mono ?_
      rintro e V13 ⟨rfl, hb⟩
      have HK2 : Hid (Kp P wr V13) := HK.out.trans (HS.out.kp hb)
      have HS2 : Hid (WS w V13 P tb n d v1 v2 v3 v4 l1 l2 l3 l4) := HS.out.of_below hb
      clear HS HK
      have HS := HS2
      have HK := HK2
      clear HS2 HK2
      replace N1 := aN N1 hb
      replace N2 := aN N2 hb
      clear hb
      refine hK.out _ _ (HS.out.below) (fun hH => ?_)
      clear hK K
      try simp only [Act.put, y1, y2, y3, y4, y5, y6, y7]
      refine wpAnyH_ready (rs := [1, 12]) (by kernel_rfl) (by simp) ?_
      refine AllReadyH.cons rfl (fun K hK => ?_) (AllReadyH.cons rfl (fun K hK => ?_) AllReadyH.nil)
      · clear hH
        have z14 : V13.cell? ⟨tb, 2, none⟩ = some v3 := HS.out.hold.cell 2 (by simp)
        go_simp
        refine hK.out _ _ (HS.out.below) (fun hH => ?_)
        clear hK K z14
        try simp only [Act.put, y1, y2, y3, y4, y5, y6, y7]
        refine wpAnyH_ready (rs := [12]) (by kernel_rfl) (by simp) ?_
        refine AllReadyH.cons rfl (fun K hK => ?_) AllReadyH.nil
        clear hH
        go_simp
        have hb : Below V13.heap.size V13 (V13.alloc (.cells #[.string T1, .string T2] 24)) := (Below.refl _ _).alloc (Nat.le_refl _) _
        have A : Hid (IHolds (V13.alloc (.cells #[.string T1, .string T2] 24)) V13.heap.size 24 [.string T1, .string T2]) := IHolds.new V13 24 _
        have HK2 : Hid (Kp P wr (V13.alloc (.cells #[.string T1, .string T2] 24))) := HK.out.trans (HS.out.kp hb)
        have HS2 : Hid (WS w (V13.alloc (.cells #[.string T1, .string T2] 24)) P tb n d v1 v2 v3 v4 l1 l2 l3 l4) := HS.out.of_below hb
        clear HS HK
        have HS := HS2
        have HK := HK2
        clear HS2 HK2
        replace N1 := aN N1 hb
        replace N2 := aN N2 hb
        clear hb
        refine hK.out _ _ (HS.out.below) (fun hH => ?_)
        clear hK K
        try simp only [Act.put, y1, y2, y3, y4, y5, y6, y7]
        generalize (V13.alloc (.cells #[.string T1, .string T2] 24)) = V15 at *
        generalize V13.heap.size = ga at *
        refine wpAnyH_ready (rs := [13]) (by kernel_rfl) (by simp) ?_
        refine AllReadyH.cons rfl (fun K hK => ?_) AllReadyH.nil
        clear hH
        obtain ⟨v', V16, hr, ho, hg, ha⟩ := app24 HS.out.o3 HS.out.below.size A.out HL.out 25
        obtain ⟨sa, sl, sc, rfl⟩ := own_slice ho
        have HG : Hid (IHolds V16 tb 27 [v1, v2, v3, v4, .string n, .string d, .int .i64 0]) := HS.out.grown3 ho hg ha
        obtain ⟨hs2, hk2⟩ := HS.out.put3 ho hg ha
        have HS2 : Hid (WS w (V16.setCell ⟨tb, 2, none⟩ (.slice sa sl sc)) P tb n d v1 v2 (.slice sa sl sc) v4 l1 l2 (l3 ++ [(T1, T2)]) l4) := hs2
        have HK2 : Hid (Kp P wr (V16.setCell ⟨tb, 2, none⟩ (.slice sa sl sc))) := HK.out.trans hk2
        clear hs2 hk2
        refine wp_append_at (.tmp 125) (.tmp 136) 25 rfl _ (.slice sa sl sc) _ rfl rfl hr ?_
        have HKM : Hid (Kp P wr V16) := HK.out.trans (fun g hp => hg.block g (HS.out.far g hp).1 (fun q => (HS.out.far g hp).2.2.2.2.1 q.symm))
        have HBM : Hid (Below w.heap.size w V16) := HS.out.below.grown hg HS.out.below.size (fun g hx => (HS.out.o3.lt g hx).1)
        clear HK HS hr ho hg ha A
        refine hK.out _ _ (HBM.out) (fun hH => ?_)
        clear hK K
        try simp only [Act.put, y1, y2, y3, y4, y5, y6, y7]
        clear HKM HBM
        refine tk (i := 14) (v := .pointer (some ⟨tb, 2, none⟩)) rfl (by kernel_rfl) (fun _ _ _ h => HP.out _ _ _ _ h) (by kernel_rfl) ?_ hH ?_
        · intro V hS
          go_simp
        simp only [Act.put, y1, y2, y3, y4, y5, y6, y7]
        refine wpAnyH_ready (rs := [15]) (by kernel_rfl) (by simp) ?_
        refine AllReadyH.cons rfl (fun K hK => ?_) AllReadyH.nil
        clear hH
        have z17 : V16.cell? ⟨tb, 2, none⟩ = some v3 := HG.out.cell 2 (by simp)
        have f17 : ∀ i, V16.frozen? ⟨tb, i, none⟩ = false := fun i => HG.out.frozen i
        go_simp
        clear z17 f17
        generalize (V16.setCell ⟨tb, 2, none⟩ (.slice sa sl sc)) = VV at *
        have HS := HS2
        have HK := HK2
        clear HS2 HK2 HG
        refine hK.out _ _ (HS.out.below) (fun hH => ?_)
        clear hK K
        try simp only [Act.put, y1, y2, y3, y4, y5, y6, y7]
        refine wpAnyH_done (by kernel_rfl) ?_ _
        exact HQ.out _ _ _ _ _ _ _ _ _ _ _ _ _ _ _ _ _ HS.out HK.out
      · clear hH
        go_simp
        have hb : Below V13.heap.size V13 (V13.alloc (.cells #[.string T1, .string T2] 24)) := (Below.refl _ _).alloc (Nat.le_refl _) _
        have A : Hid (IHolds (V13.alloc (.cells #[.string T1, .string T2] 24)) V13.heap.size 24 [.string T1, .string T2]) := IHolds.new V13 24 _
        have HK2 : Hid (Kp P wr (V13.alloc (.cells #[.string T1, .string T2] 24))) := HK.out.trans (HS.out.kp hb)
        have HS2 : Hid (WS w (V13.alloc (.cells #[.string T1, .string T2] 24)) P tb n d v1 v2 v3 v4 l1 l2 l3 l4) := HS.out.of_below hb
        clear HS HK
        have HS := HS2
        have HK := HK2
        clear HS2 HK2
        replace N1 := aN N1 hb
        replace N2 := aN N2 hb
        clear hb
        refine hK.out _ _ (HS.out.below) (fun hH => ?_)
        clear hK K
        try simp only [Act.put, y1, y2, y3, y4, y5, y6, y7]
        generalize (V13.alloc (.cells #[.string T1, .string T2] 24)) = V18 at *
        generalize V13.heap.size = ga at *
        refine wpAnyH_ready (rs := [1]) (by kernel_rfl) (by simp) ?_
        refine AllReadyH.cons rfl (fun K hK => ?_) AllReadyH.nil
        clear hH
        have z19 : V18.cell? ⟨tb, 2, none⟩ = some v3 := HS.out.hold.cell 2 (by simp)
        go_simp
        refine hK.out _ _ (HS.out.below) (fun hH => ?_)
        clear hK K z19
        try simp only [Act.put, y1, y2, y3, y4, y5, y6, y7]
        refine wpAnyH_ready (rs := [13]) (by kernel_rfl) (by simp) ?_
        refine AllReadyH.cons rfl (fun K hK => ?_) AllReadyH.nil
        clear hH
        obtain ⟨v', V20, hr, ho, hg, ha⟩ := app24 HS.out.o3 HS.out.below.size A.out HL.out 25
        obtain ⟨sa, sl, sc, rfl⟩ := own_slice ho
        have HG : Hid (IHolds V20 tb 27 [v1, v2, v3, v4, .string n, .string d, .int .i64 0]) := HS.out.grown3 ho hg ha
        obtain ⟨hs2, hk2⟩ := HS.out.put3 ho hg ha
        have HS2 : Hid (WS w (V20.setCell ⟨tb, 2, none⟩ (.slice sa sl sc)) P tb n d v1 v2 (.slice sa sl sc) v4 l1 l2 (l3 ++ [(T1, T2)]) l4) := hs2
        have HK2 : Hid (Kp P wr (V20.setCell ⟨tb, 2, none⟩ (.slice sa sl sc))) := HK.out.trans hk2
        clear hs2 hk2
        refine wp_append_at (.tmp 125) (.tmp 136) 25 rfl _ (.slice sa sl sc) _ rfl rfl hr ?_
        have HKM : Hid (Kp P wr V20) := HK.out.trans (fun g hp => hg.block g (HS.out.far g hp).1 (fun q => (HS.out.far g hp).2.2.2.2.1 q.symm))
        have HBM : Hid (Below w.heap.size w V20) := HS.out.below.grown hg HS.out.below.size (fun g hx => (HS.out.o3.lt g hx).1)
        clear HK HS hr ho hg ha A
        refine hK.out _ _ (HBM.out) (fun hH => ?_)
        clear hK K
        try simp only [Act.put, y1, y2, y3, y4, y5, y6, y7]
        clear HKM HBM
        refine tk (i := 14) (v := .pointer (some ⟨tb, 2, none⟩)) rfl (by kernel_rfl) (fun _ _ _ h => HP.out _ _ _ _ h) (by kernel_rfl) ?_ hH ?_
        · intro V hS
          go_simp
        simp only [Act.put, y1, y2, y3, y4, y5, y6, y7]
        refine wpAnyH_ready (rs := [15]) (by kernel_rfl) (by simp) ?_
        refine AllReadyH.cons rfl (fun K hK => ?_) AllReadyH.nil
        clear hH
        have z21 : V20.cell? ⟨tb, 2, none⟩ = some v3 := HG.out.cell 2 (by simp)
        have f21 : ∀ i, V20.frozen? ⟨tb, i, none⟩ = false := fun i => HG.out.frozen i
        go_simp
        clear z21 f21
        generalize (V20.setCell ⟨tb, 2, none⟩ (.slice sa sl sc)) = VV at *
        have HS := HS2
        have HK := HK2
        clear HS2 HK2 HG
        refine hK.out _ _ (HS.out.below) (fun hH => ?_)
        clear hK K
        try simp only [Act.put, y1, y2, y3, y4, y5, y6, y7]
        refine wpAnyH_done (by kernel_rfl) ?_ _
        exact HQ.out _ _ _ _ _ _ _ _ _ _ _ _ _ _ _ _ _ HS.out HK.out
def rd31 : Code := Go.Code.region 31 #[{ dst := some 139, op := Go.Op.fieldAddr 27 (Go.Operand.tmp 14) 3, type := 0, pos := "ref.go:102", after := #[], guard := none }, { dst := some 140, op := Go.Op.load 25 (Go.Operand.tmp 139), type := 25, pos := "ref.go:102", after := #[{ on := 0, ground := Go.Ground.data }], guard := none }, { dst := some 141, op := Go.Op.call { callee := Go.Callee.value (Go.Operand.func 17), args := #[Go.Operand.const (Go.Value.int Go.IntKind.i64 1)], argTypes := #[3] }, type := 46, pos := "ref.go:102", after := #[], guard := none }, { dst := some 142, op := Go.Op.call { callee := Go.Callee.value (Go.Operand.func 15), args := #[Go.Operand.tmp 141], argTypes := #[46] }, type := 24, pos := "ref.go:102", after := #[{ on := 2, ground := Go.Ground.data }, { on := 2, ground := Go.Ground.chain }], guard := none }, { dst := some 143, op := Go.Op.buildSlice 25 1 #[(0, Go.Operand.tmp 142)], type := 25, pos := "ref.go:102", after := #[{ on := 3, ground := Go.Ground.data }], guard := none }, { dst := some 144, op := Go.Op.call { callee := Go.Callee.builtin Go.Builtin.append, args := #[Go.Operand.tmp 140, Go.Operand.tmp 143], argTypes := #[25, 25] }, type := 25, pos := "ref.go:102", after := #[{ on := 1, ground := Go.Ground.data }, { on := 4, ground := Go.Ground.data }, { on := 3, ground := Go.Ground.chain }], guard := none }, { dst := some 145, op := Go.Op.fieldAddr 27 (Go.Operand.tmp 14) 3, type := 0, pos := "ref.go:102", after := #[{ on := 0, ground := Go.Ground.phase }, { on := 1, ground := Go.Ground.phase }, { on := 2, ground := Go.Ground.phase }, { on := 3, ground := Go.Ground.phase }, { on := 4, ground := Go.Ground.phase }, { on := 5, ground := Go.Ground.phase }], guard := none }, { dst := none, op := Go.Op.store 25 (Go.Operand.tmp 145) (Go.Operand.tmp 144), type := 0, pos := "ref.go:102", after := #[{ on := 6, ground := Go.Ground.data }, { on := 5, ground := Go.Ground.data }, { on := 5, ground := Go.Ground.chain }, { on := 0, ground := Go.Ground.phase }, { on := 1, ground := Go.Ground.phase }, { on := 2, ground := Go.Ground.phase }, { on := 3, ground := Go.Ground.phase }, { on := 4, ground := Go.Ground.phase }, { on := 5, ground := Go.Ground.phase }], guard := none }] true
set_option maxHeartbeats 8000000 in
theorem rd31_wp {w wr : World} {df : List Deferred} {P : Nat → Prop} {tb : Nat} {n d T1 T2 : ByteArray} {v1 v2 v3 v4 : Value} {l1 l2 : List Int} {l3 l4 : List (ByteArray × ByteArray)}  {Q : Exit → Act → World → Prop} {t0 t1 t2 t3 t4 t5 t6 t7 t8 t9 t10 t11 t12 t13 t15 t16 t17 t18 t19 t20 t21 t22 t23 t24 t25 t26 t27 t28 t29 t30 t31 t32 t33 t34 t35 t36 t37 t38 t39 t40 t41 t42 t43 t44 t45 t46 t47 t48 t49 t50 t51 t52 t53 t54 t55 t56 t57 t58 t59 t60 t61 t62 t63 t64 t65 t66 t67 t68 t69 t70 t71 t72 t73 t74 t75 t76 t77 t78 t79 t80 t81 t82 t83 t84 t85 t86 t87 t88 t89 t90 t91 t92 t93 t94 t95 t96 t97 t98 t99 t100 t101 t102 t103 t104 t105 t106 t107 t108 t109 t110 t111 t112 t113 t114 t115 t116 t117 t118 t119 t120 t121 t122 t123 t124 t125 t126 t127 t128 t129 t130 t131 t132 t133 t134 t135 t136 t137 t138 t139 t140 t141 t142 t143 t144 t145 t146 t147 t148 : Value}
    (hws : WS w wr P tb n d v1 v2 v3 v4 l1 l2 l3 l4) (hl : l4.length ≤ 4000) (c26 : ∀ V, Calls Tryd.prog 17 #[.int .i64 1] V fun e w' => (∃ u1 u2, e = .returned (.agg #[u1, u2]) ∧ NumV w' 10 1 u1 ∧ NumV w' 10 1 u2) ∧ Below V.heap.size V w')
    (c30 : ∀ V u1 u2, NumV V 10 1 u1 → NumV V 10 1 u2 → Calls Tryd.prog 15 #[.agg #[u1, u2]] V fun e w' => e = .returned (.agg #[.string T1, .string T2]) ∧ Below V.heap.size V w')
    (hQp : ∀ c a a' w, Q (.panic c) a w → Q (.panic c) a' w) (hQ : ∀ u139 u140 u141 u142 u143 u144 u145 v' W, WS w W P tb n d v1 v2 v3 v' l1 l2 l3 (l4 ++ [(T1, T2)]) → Kp P wr W → Q .normal ⟨#[t0, t1, t2, t3, t4, t5, t6, t7, t8, t9, t10, t11, t12, t13, .pointer (some ⟨tb, 0, none⟩), t15, t16, t17, t18, t19, t20, t21, t22, t23, t24, t25, t26, t27, t28, t29, t30, t31, t32, t33, t34, t35, t36, t37, t38, t39, t40, t41, t42, t43, t44, t45, t46, t47, t48, t49, t50, t51, t52, t53, t54, t55, t56, t57, t58, t59, t60, t61, t62, t63, t64, t65, t66, t67, t68, t69, t70, t71, t72, t73, t74, t75, t76, t77, t78, t79, t80, t81, t82, t83, t84, t85, t86, t87, t88, t89, t90, t91, t92, t93, t94, t95, t96, t97, t98, t99, t100, t101, t102, t103, t104, t105, t106, t107, t108, t109, t110, t111, t112, t113, t114, t115, t116, t117, t118, t119, t120, t121, t122, t123, t124, t125, t126, t127, t128, t129, t130, t131, t132, t133, t134, t135, t136, t137, t138, u139, u140, u141, u142, u143, u144, u145, t146, t147, t148], df⟩ W) :
    rd31.wp Tryd.prog Q ⟨#[t0, t1, t2, t3, t4, t5, t6, t7, t8, t9, t10, t11, t12, t13, .pointer (some ⟨tb, 0, none⟩), t15, t16, t17, t18, t19, t20, t21, t22, t23, t24, t25, t26, t27, t28, t29, t30, t31, t32, t33, t34, t35, t36, t37, t38, t39, t40, t41, t42, t43, t44, t45, t46, t47, t48, t49, t50, t51, t52, t53, t54, t55, t56, t57, t58, t59, t60, t61, t62, t63, t64, t65, t66, t67, t68, t69, t70, t71, t72, t73, t74, t75, t76, t77, t78, t79, t80, t81, t82, t83, t84, t85, t86, t87, t88, t89, t90, t91, t92, t93, t94, t95, t96, t97, t98, t99, t100, t101, t102, t103, t104, t105, t106, t107, t108, t109, t110, t111, t112, t113, t114, t115, t116, t117, t118, t119, t120, t121, t122, t123, t124, t125, t126, t127, t128, t129, t130, t131, t132, t133, t134, t135, t136, t137, t138, t139, t140, t141, t142, t143, t144, t145, t146, t147, t148], df⟩ wr := by
  have HP : Hid (∀ c a a' w, Q (.panic c) a w → Q (.panic c) a' w) := hQp
  have HQ : Hid (∀ u139 u140 u141 u142 u143 u144 u145 v' W, WS w W P tb n d v1 v2 v3 v' l1 l2 l3 (l4 ++ [(T1, T2)]) → Kp P wr W → Q .normal ⟨#[t0, t1, t2, t3, t4, t5, t6, t7, t8, t9, t10, t11, t12, t13, .pointer (some ⟨tb, 0, none⟩), t15, t16, t17, t18, t19, t20, t21, t22, t23, t24, t25, t26, t27, t28, t29, t30, t31, t32, t33, t34, t35, t36, t37, t38, t39, t40, t41, t42, t43, t44, t45, t46, t47, t48, t49, t50, t51, t52, t53, t54, t55, t56, t57, t58, t59, t60, t61, t62, t63, t64, t65, t66, t67, t68, t69, t70, t71, t72, t73, t74, t75, t76, t77, t78, t79, t80, t81, t82, t83, t84, t85, t86, t87, t88, t89, t90, t91, t92, t93, t94, t95, t96, t97, t98, t99, t100, t101, t102, t103, t104, t105, t106, t107, t108, t109, t110, t111, t112, t113, t114, t115, t116, t117, t118, t119, t120, t121, t122, t123, t124, t125, t126, t127, t128, t129, t130, t131, t132, t133, t134, t135, t136, t137, t138, u139, u140, u141, u142, u143, u144, u145, t146, t147, t148], df⟩ W) := hQ
  have HS : Hid (WS w wr.drew P tb n d v1 v2 v3 v4 l1 l2 l3 l4) := hws.of_below (dB wr)
  have HK : Hid (Kp P wr wr.drew) := hws.kp (dB wr)
  have HL : Hid (l4.length ≤ 4000) := hl
  have C26 : Hid (∀ V, Calls Tryd.prog 17 #[.int .i64 1] V fun e w' => (∃ u1 u2, e = .returned (.agg #[u1, u2]) ∧ NumV w' 10 1 u1 ∧ NumV w' 10 1 u2) ∧ Below V.heap.size V w') := c26
  have C30 : Hid (∀ V u1 u2, NumV V 10 1 u1 → NumV V 10 1 u2 → Calls Tryd.prog 15 #[.agg #[u1, u2]] V fun e w' => e = .returned (.agg #[.string T1, .string T2]) ∧ Below V.heap.size V w') := c30
  clear c26 c30
  clear hQ hQp hws hl
  unfold rd31
  refine wp_region_held_drew (S := fun V => True) (by kernel_rfl) (trivial) (fun hH => ?_)
  generalize wr.drew = V0 at *
  refine tk (i := 0) (v := .pointer (some ⟨tb, 3, none⟩)) rfl (by kernel_rfl) (fun _ _ _ h => HP.out _ _ _ _ h) (by kernel_rfl) ?_ hH ?_
  · intro V hS
    go_simp
  simp only [Act.put, y1, y2, y3, y4, y5, y6, y7]
  refine wpAnyH_ready (rs := [1, 2]) (by kernel_rfl) (by simp) ?_
  refine AllReadyH.cons rfl (fun K hK => ?_) (AllReadyH.cons rfl (fun K hK => ?_) AllReadyH.nil)
  · clear hH
    have z1 : V0.cell? ⟨tb, 3, none⟩ = some v4 := HS.out.hold.cell 3 (by simp)
    go_simp
    refine hK.out _ _ (trivial) (fun hH => ?_)
    clear hK K z1
    try simp only [Act.put, y1, y2, y3, y4, y5, y6, y7]
    refine wpAnyH_ready (rs := [2]) (by kernel_rfl) (by simp) ?_
    refine AllReadyH.cons rfl (fun K hK => ?_) AllReadyH.nil
    clear hH
    go_simp
    refine (C26.out V0 ).mono ?_
    rintro e V2 ⟨⟨x1, x2, rfl, n1, n2⟩, hb⟩
    have N1 : Hid (NumV V2 _ _ x1) := n1
    have N2 : Hid (NumV V2 _ _ x2) := n2
    clear n1 n2
    have HK2 : Hid (Kp P wr V2) := HK.out.trans (HS.out.kp hb)
    have HS2 : Hid (WS w V2 P tb n d v1 v2 v3 v4 l1 l2 l3 l4) := HS.out.of_below hb
    clear HS HK
    have HS := HS2
    have HK := HK2
    clear HS2 HK2
    clear hb
    refine hK.out _ _ (trivial) (fun hH => ?_)
    clear hK K
    try simp only [Act.put, y1, y2, y3, y4, y5, y6, y7]
    refine wpAnyH_ready (rs := [3]) (by kernel_rfl) (by simp) ?_
    refine AllReadyH.cons rfl (fun K hK => ?_) AllReadyH.nil
    clear hH
    go_simp
    refine (C30.out V2 _ _ N1.out N2.out).mono ?_
    rintro e V3 ⟨rfl, hb⟩
    have HK2 : Hid (Kp P wr V3) := HK.out.trans (HS.out.kp hb)
    have HS2 : Hid (WS w V3 P tb n d v1 v2 v3 v4 l1 l2 l3 l4) := HS.out.of_below hb
    clear HS HK
    have HS := HS2
    have HK := HK2
    clear HS2 HK2
    replace N1 := aN N1 hb
    replace N2 := aN N2 hb
    clear hb
    refine hK.out _ _ (trivial) (fun hH => ?_)
    clear hK K
    try simp only [Act.put, y1, y2, y3, y4, y5, y6, y7]
    refine wpAnyH_ready (rs := [4]) (by kernel_rfl) (by simp) ?_
    refine AllReadyH.cons rfl (fun K hK => ?_) AllReadyH.nil
    clear hH
    go_simp
    have hb : Below V3.heap.size V3 (V3.alloc (.cells #[.string T1, .string T2] 24)) := (Below.refl _ _).alloc (Nat.le_refl _) _
    have A : Hid (IHolds (V3.alloc (.cells #[.string T1, .string T2] 24)) V3.heap.size 24 [.string T1, .string T2]) := IHolds.new V3 24 _
    have HK2 : Hid (Kp P wr (V3.alloc (.cells #[.string T1, .string T2] 24))) := HK.out.trans (HS.out.kp hb)
    have HS2 : Hid (WS w (V3.alloc (.cells #[.string T1, .string T2] 24)) P tb n d v1 v2 v3 v4 l1 l2 l3 l4) := HS.out.of_below hb
    clear HS HK
    have HS := HS2
    have HK := HK2
    clear HS2 HK2
    replace N1 := aN N1 hb
    replace N2 := aN N2 hb
    clear hb
    refine hK.out _ _ (trivial) (fun hH => ?_)
    clear hK K
    try simp only [Act.put, y1, y2, y3, y4, y5, y6, y7]
    generalize (V3.alloc (.cells #[.string T1, .string T2] 24)) = V4 at *
    generalize V3.heap.size = ga at *
    refine wpAnyH_ready (rs := [5]) (by kernel_rfl) (by simp) ?_
    refine AllReadyH.cons rfl (fun K hK => ?_) AllReadyH.nil
    clear hH
    obtain ⟨v', V5, hr, ho, hg, ha⟩ := app24 HS.out.o4 HS.out.below.size A.out HL.out 25
    obtain ⟨sa, sl, sc, rfl⟩ := own_slice ho
    have HG : Hid (IHolds V5 tb 27 [v1, v2, v3, v4, .string n, .string d, .int .i64 0]) := HS.out.grown4 ho hg ha
    obtain ⟨hs2, hk2⟩ := HS.out.put4 ho hg ha
    have HS2 : Hid (WS w (V5.setCell ⟨tb, 3, none⟩ (.slice sa sl sc)) P tb n d v1 v2 v3 (.slice sa sl sc) l1 l2 l3 (l4 ++ [(T1, T2)])) := hs2
    have HK2 : Hid (Kp P wr (V5.setCell ⟨tb, 3, none⟩ (.slice sa sl sc))) := HK.out.trans hk2
    clear hs2 hk2
    refine wp_append_at (.tmp 140) (.tmp 143) 25 rfl _ (.slice sa sl sc) _ rfl rfl hr ?_
    have HKM : Hid (Kp P wr V5) := HK.out.trans (fun g hp => hg.block g (HS.out.far g hp).1 (fun q => (HS.out.far g hp).2.2.2.2.2 q.symm))
    have HBM : Hid (Below w.heap.size w V5) := HS.out.below.grown hg HS.out.below.size (fun g hx => (HS.out.o4.lt g hx).1)
    clear HK HS hr ho hg ha A
    refine hK.out _ _ (trivial) (fun hH => ?_)
    clear hK K
    try simp only [Act.put, y1, y2, y3, y4, y5, y6, y7]
    clear HKM HBM
    refine tk (i := 6) (v := .pointer (some ⟨tb, 3, none⟩)) rfl (by kernel_rfl) (fun _ _ _ h => HP.out _ _ _ _ h) (by kernel_rfl) ?_ hH ?_
    · intro V hS
      go_simp
    simp only [Act.put, y1, y2, y3, y4, y5, y6, y7]
    refine wpAnyH_ready (rs := [7]) (by kernel_rfl) (by simp) ?_
    refine AllReadyH.cons rfl (fun K hK => ?_) AllReadyH.nil
    clear hH
    have z6 : V5.cell? ⟨tb, 3, none⟩ = some v4 := HG.out.cell 3 (by simp)
    have f6 : ∀ i, V5.frozen? ⟨tb, i, none⟩ = false := fun i => HG.out.frozen i
    go_simp
    clear z6 f6
    generalize (V5.setCell ⟨tb, 3, none⟩ (.slice sa sl sc)) = VV at *
    have HS := HS2
    have HK := HK2
    clear HS2 HK2 HG
    refine hK.out _ _ (trivial) (fun hH => ?_)
    clear hK K
    try simp only [Act.put, y1, y2, y3, y4, y5, y6, y7]
    refine wpAnyH_done (by kernel_rfl) ?_ _
    exact HQ.out _ _ _ _ _ _ _ _ _ HS.out HK.out
  · clear hH
    go_simp
    refine (C26.out V0 ).mono ?_
    rintro e V7 ⟨⟨x1, x2, rfl, n1, n2⟩, hb⟩
    have N1 : Hid (NumV V7 _ _ x1) := n1
    have N2 : Hid (NumV V7 _ _ x2) := n2
    clear n1 n2
    have HK2 : Hid (Kp P wr V7) := HK.out.trans (HS.out.kp hb)
    have HS2 : Hid (WS w V7 P tb n d v1 v2 v3 v4 l1 l2 l3 l4) := HS.out.of_below hb
    clear HS HK
    have HS := HS2
    have HK := HK2
    clear HS2 HK2
    clear hb
    refine hK.out _ _ (trivial) (fun hH => ?_)
    clear hK K
    try simp only [Act.put, y1, y2, y3, y4, y5, y6, y7]
    refine wpAnyH_ready (rs := [1, 3]) (by kernel_rfl) (by simp) ?_
    refine AllReadyH.cons rfl (fun K hK => ?_) (AllReadyH.cons rfl (fun K hK => ?_) AllReadyH.nil)
    · clear hH
      have z8 : V7.cell? ⟨tb, 3, none⟩ = some v4 := HS.out.hold.cell 3 (by simp)
      go_simp
      refine hK.out _ _ (trivial) (fun hH => ?_)
      clear hK K z8
      try simp only [Act.put, y1, y2, y3, y4, y5, y6, y7]
      refine wpAnyH_ready (rs := [3]) (by kernel_rfl) (by simp) ?_
      refine AllReadyH.cons rfl (fun K hK => ?_) AllReadyH.nil
      clear hH
      go_simp
      refine (C30.out V7 _ _ N1.out N2.out).mono ?_
      rintro e V9 ⟨rfl, hb⟩
      have HK2 : Hid (Kp P wr V9) := HK.out.trans (HS.out.kp hb)
      have HS2 : Hid (WS w V9 P tb n d v1 v2 v3 v4 l1 l2 l3 l4) := HS.out.of_below hb
      clear HS HK
      have HS := HS2
      have HK := HK2
      clear HS2 HK2
      replace N1 := aN N1 hb
      replace N2 := aN N2 hb
      clear hb
      refine hK.out _ _ (trivial) (fun hH => ?_)
      clear hK K
      try simp only [Act.put, y1, y2, y3, y4, y5, y6, y7]
      refine wpAnyH_ready (rs := [4]) (by kernel_rfl) (by simp) ?_
      refine AllReadyH.cons rfl (fun K hK => ?_) AllReadyH.nil
      clear hH
      go_simp
      have hb : Below V9.heap.size V9 (V9.alloc (.cells #[.string T1, .string T2] 24)) := (Below.refl _ _).alloc (Nat.le_refl _) _
      have A : Hid (IHolds (V9.alloc (.cells #[.string T1, .string T2] 24)) V9.heap.size 24 [.string T1, .string T2]) := IHolds.new V9 24 _
      have HK2 : Hid (Kp P wr (V9.alloc (.cells #[.string T1, .string T2] 24))) := HK.out.trans (HS.out.kp hb)
      have HS2 : Hid (WS w (V9.alloc (.cells #[.string T1, .string T2] 24)) P tb n d v1 v2 v3 v4 l1 l2 l3 l4) := HS.out.of_below hb
      clear HS HK
      have HS := HS2
      have HK := HK2
      clear HS2 HK2
      replace N1 := aN N1 hb
      replace N2 := aN N2 hb
      clear hb
      refine hK.out _ _ (trivial) (fun hH => ?_)
      clear hK K
      try simp only [Act.put, y1, y2, y3, y4, y5, y6, y7]
      generalize (V9.alloc (.cells #[.string T1, .string T2] 24)) = V10 at *
      generalize V9.heap.size = ga at *
      refine wpAnyH_ready (rs := [5]) (by kernel_rfl) (by simp) ?_
      refine AllReadyH.cons rfl (fun K hK => ?_) AllReadyH.nil
      clear hH
      obtain ⟨v', V11, hr, ho, hg, ha⟩ := app24 HS.out.o4 HS.out.below.size A.out HL.out 25
      obtain ⟨sa, sl, sc, rfl⟩ := own_slice ho
      have HG : Hid (IHolds V11 tb 27 [v1, v2, v3, v4, .string n, .string d, .int .i64 0]) := HS.out.grown4 ho hg ha
      obtain ⟨hs2, hk2⟩ := HS.out.put4 ho hg ha
      have HS2 : Hid (WS w (V11.setCell ⟨tb, 3, none⟩ (.slice sa sl sc)) P tb n d v1 v2 v3 (.slice sa sl sc) l1 l2 l3 (l4 ++ [(T1, T2)])) := hs2
      have HK2 : Hid (Kp P wr (V11.setCell ⟨tb, 3, none⟩ (.slice sa sl sc))) := HK.out.trans hk2
      clear hs2 hk2
      refine wp_append_at (.tmp 140) (.tmp 143) 25 rfl _ (.slice sa sl sc) _ rfl rfl hr ?_
      have HKM : Hid (Kp P wr V11) := HK.out.trans (fun g hp => hg.block g (HS.out.far g hp).1 (fun q => (HS.out.far g hp).2.2.2.2.2 q.symm))
      have HBM : Hid (Below w.heap.size w V11) := HS.out.below.grown hg HS.out.below.size (fun g hx => (HS.out.o4.lt g hx).1)
      clear HK HS hr ho hg ha A
      refine hK.out _ _ (trivial) (fun hH => ?_)
      clear hK K
      try simp only [Act.put, y1, y2, y3, y4, y5, y6, y7]
      clear HKM HBM
      refine tk (i := 6) (v := .pointer (some ⟨tb, 3, none⟩)) rfl (by kernel_rfl) (fun _ _ _ h => HP.out _ _ _ _ h) (by kernel_rfl) ?_ hH ?_
      · intro V hS
        go_simp
      simp only [Act.put, y1, y2, y3, y4, y5, y6, y7]
      refine wpAnyH_ready (rs := [7]) (by kernel_rfl) (by simp) ?_
      refine AllReadyH.cons rfl (fun K hK => ?_) AllReadyH.nil
      clear hH
      have z12 : V11.cell? ⟨tb, 3, none⟩ = some v4 := HG.out.cell 3 (by simp)
      have f12 : ∀ i, V11.frozen? ⟨tb, i, none⟩ = false := fun i => HG.out.frozen i
      go_simp
      clear z12 f12
      generalize (V11.setCell ⟨tb, 3, none⟩ (.slice sa sl sc)) = VV at *
      have HS := HS2
      have HK := HK2
      clear HS2 HK2 HG
      refine hK.out _ _ (trivial) (fun hH => ?_)
      clear hK K
      try simp only [Act.put, y1, y2, y3, y4, y5, y6, y7]
      refine wpAnyH_done (by kernel_rfl) ?_ _
      exact HQ.out _ _ _ _ _ _ _ _ _ HS.out HK.out
    · clear hH
      go_simp
      refine (C30.out V7 _ _ N1.out N2.out).mono ?_
      rintro e V13 ⟨rfl, hb⟩
      have HK2 : Hid (Kp P wr V13) := HK.out.trans (HS.out.kp hb)
      have HS2 : Hid (WS w V13 P tb n d v1 v2 v3 v4 l1 l2 l3 l4) := HS.out.of_below hb
      clear HS HK
      have HS := HS2
      have HK := HK2
      clear HS2 HK2
      replace N1 := aN N1 hb
      replace N2 := aN N2 hb
      clear hb
      refine hK.out _ _ (trivial) (fun hH => ?_)
      clear hK K
      try simp only [Act.put, y1, y2, y3, y4, y5, y6, y7]
      refine wpAnyH_ready (rs := [1, 4]) (by kernel_rfl) (by simp) ?_
      refine AllReadyH.cons rfl (fun K hK => ?_) (AllReadyH.cons rfl (fun K hK => ?_) AllReadyH.nil)
      · clear hH
        have z14 : V13.cell? ⟨tb, 3, none⟩ = some v4 := HS.out.hold.cell 3 (by simp)
        go_simp
        refine hK.out _ _ (trivial) (fun hH => ?_)
        clear hK K z14
        try simp only [Act.put, y1, y2, y3, y4, y5, y6, y7]
        refine wpAnyH_ready (rs := [4]) (by kernel_rfl) (by simp) ?_
        refine AllReadyH.cons rfl (fun K hK => ?_) AllReadyH.nil
        clear hH
        go_simp
        have hb : Below V13.heap.size V13 (V13.alloc (.cells #[.string T1, .string T2] 24)) := (Below.refl _ _).alloc (Nat.le_refl _) _
        have A : Hid (IHolds (V13.alloc (.cells #[.string T1, .string T2] 24)) V13.heap.size 24 [.string T1, .string T2]) := IHolds.new V13 24 _
        have HK2 : Hid (Kp P wr (V13.alloc (.cells #[.string T1, .string T2] 24))) := HK.out.trans (HS.out.kp hb)
        have HS2 : Hid (WS w (V13.alloc (.cells #[.string T1, .string T2] 24)) P tb n d v1 v2 v3 v4 l1 l2 l3 l4) := HS.out.of_below hb
        clear HS HK
        have HS := HS2
        have HK := HK2
        clear HS2 HK2
        replace N1 := aN N1 hb
        replace N2 := aN N2 hb
        clear hb
        refine hK.out _ _ (trivial) (fun hH => ?_)
        clear hK K
        try simp only [Act.put, y1, y2, y3, y4, y5, y6, y7]
        generalize (V13.alloc (.cells #[.string T1, .string T2] 24)) = V15 at *
        generalize V13.heap.size = ga at *
        refine wpAnyH_ready (rs := [5]) (by kernel_rfl) (by simp) ?_
        refine AllReadyH.cons rfl (fun K hK => ?_) AllReadyH.nil
        clear hH
        obtain ⟨v', V16, hr, ho, hg, ha⟩ := app24 HS.out.o4 HS.out.below.size A.out HL.out 25
        obtain ⟨sa, sl, sc, rfl⟩ := own_slice ho
        have HG : Hid (IHolds V16 tb 27 [v1, v2, v3, v4, .string n, .string d, .int .i64 0]) := HS.out.grown4 ho hg ha
        obtain ⟨hs2, hk2⟩ := HS.out.put4 ho hg ha
        have HS2 : Hid (WS w (V16.setCell ⟨tb, 3, none⟩ (.slice sa sl sc)) P tb n d v1 v2 v3 (.slice sa sl sc) l1 l2 l3 (l4 ++ [(T1, T2)])) := hs2
        have HK2 : Hid (Kp P wr (V16.setCell ⟨tb, 3, none⟩ (.slice sa sl sc))) := HK.out.trans hk2
        clear hs2 hk2
        refine wp_append_at (.tmp 140) (.tmp 143) 25 rfl _ (.slice sa sl sc) _ rfl rfl hr ?_
        have HKM : Hid (Kp P wr V16) := HK.out.trans (fun g hp => hg.block g (HS.out.far g hp).1 (fun q => (HS.out.far g hp).2.2.2.2.2 q.symm))
        have HBM : Hid (Below w.heap.size w V16) := HS.out.below.grown hg HS.out.below.size (fun g hx => (HS.out.o4.lt g hx).1)
        clear HK HS hr ho hg ha A
        refine hK.out _ _ (trivial) (fun hH => ?_)
        clear hK K
        try simp only [Act.put, y1, y2, y3, y4, y5, y6, y7]
        clear HKM HBM
        refine tk (i := 6) (v := .pointer (some ⟨tb, 3, none⟩)) rfl (by kernel_rfl) (fun _ _ _ h => HP.out _ _ _ _ h) (by kernel_rfl) ?_ hH ?_
        · intro V hS
          go_simp
        simp only [Act.put, y1, y2, y3, y4, y5, y6, y7]
        refine wpAnyH_ready (rs := [7]) (by kernel_rfl) (by simp) ?_
        refine AllReadyH.cons rfl (fun K hK => ?_) AllReadyH.nil
        clear hH
        have z17 : V16.cell? ⟨tb, 3, none⟩ = some v4 := HG.out.cell 3 (by simp)
        have f17 : ∀ i, V16.frozen? ⟨tb, i, none⟩ = false := fun i => HG.out.frozen i
        go_simp
        clear z17 f17
        generalize (V16.setCell ⟨tb, 3, none⟩ (.slice sa sl sc)) = VV at *
        have HS := HS2
        have HK := HK2
        clear HS2 HK2 HG
        refine hK.out _ _ (trivial) (fun hH => ?_)
        clear hK K
        try simp only [Act.put, y1, y2, y3, y4, y5, y6, y7]
        refine wpAnyH_done (by kernel_rfl) ?_ _
        exact HQ.out _ _ _ _ _ _ _ _ _ HS.out HK.out
      · clear hH
        go_simp
        have hb : Below V13.heap.size V13 (V13.alloc (.cells #[.string T1, .string T2] 24)) := (Below.refl _ _).alloc (Nat.le_refl _) _
        have A : Hid (IHolds (V13.alloc (.cells #[.string T1, .string T2] 24)) V13.heap.size 24 [.string T1, .string T2]) := IHolds.new V13 24 _
        have HK2 : Hid (Kp P wr (V13.alloc (.cells #[.string T1, .string T2] 24))) := HK.out.trans (HS.out.kp hb)
        have HS2 : Hid (WS w (V13.alloc (.cells #[.string T1, .string T2] 24)) P tb n d v1 v2 v3 v4 l1 l2 l3 l4) := HS.out.of_below hb
        clear HS HK
        have HS := HS2
        have HK := HK2
        clear HS2 HK2
        replace N1 := aN N1 hb
        replace N2 := aN N2 hb
        clear hb
        refine hK.out _ _ (trivial) (fun hH => ?_)
        clear hK K
        try simp only [Act.put, y1, y2, y3, y4, y5, y6, y7]
        generalize (V13.alloc (.cells #[.string T1, .string T2] 24)) = V18 at *
        generalize V13.heap.size = ga at *
        refine wpAnyH_ready (rs := [1]) (by kernel_rfl) (by simp) ?_
        refine AllReadyH.cons rfl (fun K hK => ?_) AllReadyH.nil
        clear hH
        have z19 : V18.cell? ⟨tb, 3, none⟩ = some v4 := HS.out.hold.cell 3 (by simp)
        go_simp
        refine hK.out _ _ (trivial) (fun hH => ?_)
        clear hK K z19
        try simp only [Act.put, y1, y2, y3, y4, y5, y6, y7]
        refine wpAnyH_ready (rs := [5]) (by kernel_rfl) (by simp) ?_
        refine AllReadyH.cons rfl (fun K hK => ?_) AllReadyH.nil
        clear hH
        obtain ⟨v', V20, hr, ho, hg, ha⟩ := app24 HS.out.o4 HS.out.below.size A.out HL.out 25
        obtain ⟨sa, sl, sc, rfl⟩ := own_slice ho
        have HG : Hid (IHolds V20 tb 27 [v1, v2, v3, v4, .string n, .string d, .int .i64 0]) := HS.out.grown4 ho hg ha
        obtain ⟨hs2, hk2⟩ := HS.out.put4 ho hg ha
        have HS2 : Hid (WS w (V20.setCell ⟨tb, 3, none⟩ (.slice sa sl sc)) P tb n d v1 v2 v3 (.slice sa sl sc) l1 l2 l3 (l4 ++ [(T1, T2)])) := hs2
        have HK2 : Hid (Kp P wr (V20.setCell ⟨tb, 3, none⟩ (.slice sa sl sc))) := HK.out.trans hk2
        clear hs2 hk2
        refine wp_append_at (.tmp 140) (.tmp 143) 25 rfl _ (.slice sa sl sc) _ rfl rfl hr ?_
        have HKM : Hid (Kp P wr V20) := HK.out.trans (fun g hp => hg.block g (HS.out.far g hp).1 (fun q => (HS.out.far g hp).2.2.2.2.2 q.symm))
        have HBM : Hid (Below w.heap.size w V20) := HS.out.below.grown hg HS.out.below.size (fun g hx => (HS.out.o4.lt g hx).1)
        clear HK HS hr ho hg ha A
        refine hK.out _ _ (trivial) (fun hH => ?_)
        clear hK K
        try simp only [Act.put, y1, y2, y3, y4, y5, y6, y7]
        clear HKM HBM
        refine tk (i := 6) (v := .pointer (some ⟨tb, 3, none⟩)) rfl (by kernel_rfl) (fun _ _ _ h => HP.out _ _ _ _ h) (by kernel_rfl) ?_ hH ?_
        · intro V hS
          go_simp
        simp only [Act.put, y1, y2, y3, y4, y5, y6, y7]
        refine wpAnyH_ready (rs := [7]) (by kernel_rfl) (by simp) ?_
        refine AllReadyH.cons rfl (fun K hK => ?_) AllReadyH.nil
        clear hH
        have z21 : V20.cell? ⟨tb, 3, none⟩ = some v4 := HG.out.cell 3 (by simp)
        have f21 : ∀ i, V20.frozen? ⟨tb, i, none⟩ = false := fun i => HG.out.frozen i
        go_simp
        clear z21 f21
        generalize (V20.setCell ⟨tb, 3, none⟩ (.slice sa sl sc)) = VV at *
        have HS := HS2
        have HK := HK2
        clear HS2 HK2 HG
        refine hK.out _ _ (trivial) (fun hH => ?_)
        clear hK K
        try simp only [Act.put, y1, y2, y3, y4, y5, y6, y7]
        refine wpAnyH_done (by kernel_rfl) ?_ _
        exact HQ.out _ _ _ _ _ _ _ _ _ HS.out HK.out
def rd26 : Code := Go.Code.region 26 #[{ dst := some 102, op := Go.Op.move (Go.Operand.tmp 0), type := 22, pos := "ref.go:96", after := #[], guard := none }, { dst := some 103, op := Go.Op.move (Go.Operand.tmp 16), type := 3, pos := "ref.go:96", after := #[], guard := none }, { dst := some 104, op := Go.Op.indexAddr 22 (Go.Operand.tmp 102) (Go.Operand.tmp 103), type := 0, pos := "ref.go:96", after := #[{ on := 0, ground := Go.Ground.data }, { on := 1, ground := Go.Ground.data }], guard := none }, { dst := some 105, op := Go.Op.load 3 (Go.Operand.tmp 104), type := 3, pos := "ref.go:96", after := #[{ on := 2, ground := Go.Ground.data }], guard := none }, { dst := some 106, op := Go.Op.move (Go.Operand.tmp 0), type := 22, pos := "ref.go:96", after := #[], guard := none }, { dst := some 107, op := Go.Op.move (Go.Operand.tmp 17), type := 3, pos := "ref.go:96", after := #[], guard := none }, { dst := some 108, op := Go.Op.indexAddr 22 (Go.Operand.tmp 106) (Go.Operand.tmp 107), type := 0, pos := "ref.go:96", after := #[{ on := 4, ground := Go.Ground.data }, { on := 5, ground := Go.Ground.data }], guard := none }, { dst := some 109, op := Go.Op.load 3 (Go.Operand.tmp 108), type := 3, pos := "ref.go:96", after := #[{ on := 6, ground := Go.Ground.data }], guard := none }, { dst := some 110, op := Go.Op.binOp Go.BinOp.leq 3 (Go.Operand.tmp 105) (Go.Operand.tmp 109) 3, type := 4, pos := "ref.go:96", after := #[{ on := 3, ground := Go.Ground.data }, { on := 7, ground := Go.Ground.data }], guard := none }] true
set_option maxHeartbeats 8000000 in
theorem rd26_tie {wr : World} {df : List Deferred} {at_ ot N ct i k x y : Nat} {Q : Exit → Act → World → Prop} {t1 t2 t3 t4 t5 t6 t7 t8 t9 t10 t11 t12 t13 t14 t15 t18 t19 t20 t21 t22 t23 t24 t25 t26 t27 t28 t29 t30 t31 t32 t33 t34 t35 t36 t37 t38 t39 t40 t41 t42 t43 t44 t45 t46 t47 t48 t49 t50 t51 t52 t53 t54 t55 t56 t57 t58 t59 t60 t61 t62 t63 t64 t65 t66 t67 t68 t69 t70 t71 t72 t73 t74 t75 t76 t77 t78 t79 t80 t81 t82 t83 t84 t85 t86 t87 t88 t89 t90 t91 t92 t93 t94 t95 t96 t97 t98 t99 t100 t101 t102 t103 t104 t105 t106 t107 t108 t109 t110 t111 t112 t113 t114 t115 t116 t117 t118 t119 t120 t121 t122 t123 t124 t125 t126 t127 t128 t129 t130 t131 t132 t133 t134 t135 t136 t137 t138 t139 t140 t141 t142 t143 t144 t145 t146 t147 t148 : Value} (il : (i : Int) < (N : Int)) (kl : (k : Int) < (N : Int)) (p1 : wr.drew.cell? ⟨at_, ot + i, none⟩ = some (.int .i64 (x : Int))) (p2 : wr.drew.cell? ⟨at_, ot + k, none⟩ = some (.int .i64 (y : Int))) (xy : (x : Int) ≤ (y : Int)) 
    (hQp : ∀ c a a' w, Q (.panic c) a w → Q (.panic c) a' w) (hQ : ∀ u102 u103 u104 u105 u106 u107 u108 u109, Q .normal ⟨#[.slice (some ⟨at_, ot, none⟩) N ct, t1, t2, t3, t4, t5, t6, t7, t8, t9, t10, t11, t12, t13, t14, t15, .int .i64 (i : Int), .int .i64 (k : Int), t18, t19, t20, t21, t22, t23, t24, t25, t26, t27, t28, t29, t30, t31, t32, t33, t34, t35, t36, t37, t38, t39, t40, t41, t42, t43, t44, t45, t46, t47, t48, t49, t50, t51, t52, t53, t54, t55, t56, t57, t58, t59, t60, t61, t62, t63, t64, t65, t66, t67, t68, t69, t70, t71, t72, t73, t74, t75, t76, t77, t78, t79, t80, t81, t82, t83, t84, t85, t86, t87, t88, t89, t90, t91, t92, t93, t94, t95, t96, t97, t98, t99, t100, t101, u102, u103, u104, u105, u106, u107, u108, u109, .bool true, t111, t112, t113, t114, t115, t116, t117, t118, t119, t120, t121, t122, t123, t124, t125, t126, t127, t128, t129, t130, t131, t132, t133, t134, t135, t136, t137, t138, t139, t140, t141, t142, t143, t144, t145, t146, t147, t148], df⟩ wr.drew) :
    rd26.wp Tryd.prog Q ⟨#[.slice (some ⟨at_, ot, none⟩) N ct, t1, t2, t3, t4, t5, t6, t7, t8, t9, t10, t11, t12, t13, t14, t15, .int .i64 (i : Int), .int .i64 (k : Int), t18, t19, t20, t21, t22, t23, t24, t25, t26, t27, t28, t29, t30, t31, t32, t33, t34, t35, t36, t37, t38, t39, t40, t41, t42, t43, t44, t45, t46, t47, t48, t49, t50, t51, t52, t53, t54, t55, t56, t57, t58, t59, t60, t61, t62, t63, t64, t65, t66, t67, t68, t69, t70, t71, t72, t73, t74, t75, t76, t77, t78, t79, t80, t81, t82, t83, t84, t85, t86, t87, t88, t89, t90, t91, t92, t93, t94, t95, t96, t97, t98, t99, t100, t101, t102, t103, t104, t105, t106, t107, t108, t109, t110, t111, t112, t113, t114, t115, t116, t117, t118, t119, t120, t121, t122, t123, t124, t125, t126, t127, t128, t129, t130, t131, t132, t133, t134, t135, t136, t137, t138, t139, t140, t141, t142, t143, t144, t145, t146, t147, t148], df⟩ wr := by
  have HP : Hid (∀ c a a' w, Q (.panic c) a w → Q (.panic c) a' w) := hQp
  have HQ : Hid (∀ u102 u103 u104 u105 u106 u107 u108 u109, Q .normal ⟨#[.slice (some ⟨at_, ot, none⟩) N ct, t1, t2, t3, t4, t5, t6, t7, t8, t9, t10, t11, t12, t13, t14, t15, .int .i64 (i : Int), .int .i64 (k : Int), t18, t19, t20, t21, t22, t23, t24, t25, t26, t27, t28, t29, t30, t31, t32, t33, t34, t35, t36, t37, t38, t39, t40, t41, t42, t43, t44, t45, t46, t47, t48, t49, t50, t51, t52, t53, t54, t55, t56, t57, t58, t59, t60, t61, t62, t63, t64, t65, t66, t67, t68, t69, t70, t71, t72, t73, t74, t75, t76, t77, t78, t79, t80, t81, t82, t83, t84, t85, t86, t87, t88, t89, t90, t91, t92, t93, t94, t95, t96, t97, t98, t99, t100, t101, u102, u103, u104, u105, u106, u107, u108, u109, .bool true, t111, t112, t113, t114, t115, t116, t117, t118, t119, t120, t121, t122, t123, t124, t125, t126, t127, t128, t129, t130, t131, t132, t133, t134, t135, t136, t137, t138, t139, t140, t141, t142, t143, t144, t145, t146, t147, t148], df⟩ wr.drew) := hQ
  clear hQ hQp
  unfold rd26
  refine wp_region_held_drew (S := fun V => V = wr.drew) (by kernel_rfl) rfl (fun hH0 => ?_)
  generalize wr.drew = X at *
  refine tk (i := 0) (v := .slice (some ⟨at_, ot, none⟩) N ct) rfl (by kernel_rfl) (fun _ _ _ h => HP.out _ _ _ _ h) (by kernel_rfl) ?_ hH0 ?_
  · intro V hS; subst hS; go_simp
  simp only [Act.put, y1, y2, y3, y4, y5, y6, y7]
  refine tk (i := 1) (v := .int .i64 (i : Int)) rfl (by kernel_rfl) (fun _ _ _ h => HP.out _ _ _ _ h) (by kernel_rfl) ?_ hH0 ?_
  · intro V hS; subst hS; go_simp
  simp only [Act.put, y1, y2, y3, y4, y5, y6, y7]
  refine tk (i := 2) (v := .pointer (some ⟨at_, ot + i, none⟩)) rfl (by kernel_rfl) (fun _ _ _ h => HP.out _ _ _ _ h) (by kernel_rfl) ?_ hH0 ?_
  · intro V hS; subst hS; go_simp
  simp only [Act.put, y1, y2, y3, y4, y5, y6, y7]
  refine tk (i := 3) (v := .int .i64 (x : Int)) rfl (by kernel_rfl) (fun _ _ _ h => HP.out _ _ _ _ h) (by kernel_rfl) ?_ hH0 ?_
  · intro V hS; subst hS; go_simp
  simp only [Act.put, y1, y2, y3, y4, y5, y6, y7]
  refine tk (i := 4) (v := .slice (some ⟨at_, ot, none⟩) N ct) rfl (by kernel_rfl) (fun _ _ _ h => HP.out _ _ _ _ h) (by kernel_rfl) ?_ hH0 ?_
  · intro V hS; subst hS; go_simp
  simp only [Act.put, y1, y2, y3, y4, y5, y6, y7]
  refine tk (i := 5) (v := .int .i64 (k : Int)) rfl (by kernel_rfl) (fun _ _ _ h => HP.out _ _ _ _ h) (by kernel_rfl) ?_ hH0 ?_
  · intro V hS; subst hS; go_simp
  simp only [Act.put, y1, y2, y3, y4, y5, y6, y7]
  refine tk (i := 6) (v := .pointer (some ⟨at_, ot + k, none⟩)) rfl (by kernel_rfl) (fun _ _ _ h => HP.out _ _ _ _ h) (by kernel_rfl) ?_ hH0 ?_
  · intro V hS; subst hS; go_simp
  simp only [Act.put, y1, y2, y3, y4, y5, y6, y7]
  refine tk (i := 7) (v := .int .i64 (y : Int)) rfl (by kernel_rfl) (fun _ _ _ h => HP.out _ _ _ _ h) (by kernel_rfl) ?_ hH0 ?_
  · intro V hS; subst hS; go_simp
  simp only [Act.put, y1, y2, y3, y4, y5, y6, y7]
  refine tk (i := 8) (v := .bool true) rfl (by kernel_rfl) (fun _ _ _ h => HP.out _ _ _ _ h) (by kernel_rfl) ?_ hH0 ?_
  · intro V hS; subst hS; go_simp
  simp only [Act.put, y1, y2, y3, y4, y5, y6, y7]
  refine wpAnyH_done (by kernel_rfl) ?_ _
  exact HQ.out _ _ _ _ _ _ _ _
set_option maxHeartbeats 8000000 in
theorem rd26_not {wr : World} {df : List Deferred} {at_ ot N ct i k x y : Nat} {Q : Exit → Act → World → Prop} {t1 t2 t3 t4 t5 t6 t7 t8 t9 t10 t11 t12 t13 t14 t15 t18 t19 t20 t21 t22 t23 t24 t25 t26 t27 t28 t29 t30 t31 t32 t33 t34 t35 t36 t37 t38 t39 t40 t41 t42 t43 t44 t45 t46 t47 t48 t49 t50 t51 t52 t53 t54 t55 t56 t57 t58 t59 t60 t61 t62 t63 t64 t65 t66 t67 t68 t69 t70 t71 t72 t73 t74 t75 t76 t77 t78 t79 t80 t81 t82 t83 t84 t85 t86 t87 t88 t89 t90 t91 t92 t93 t94 t95 t96 t97 t98 t99 t100 t101 t102 t103 t104 t105 t106 t107 t108 t109 t110 t111 t112 t113 t114 t115 t116 t117 t118 t119 t120 t121 t122 t123 t124 t125 t126 t127 t128 t129 t130 t131 t132 t133 t134 t135 t136 t137 t138 t139 t140 t141 t142 t143 t144 t145 t146 t147 t148 : Value} (il : (i : Int) < (N : Int)) (kl : (k : Int) < (N : Int)) (p1 : wr.drew.cell? ⟨at_, ot + i, none⟩ = some (.int .i64 (x : Int))) (p2 : wr.drew.cell? ⟨at_, ot + k, none⟩ = some (.int .i64 (y : Int))) (xy : ¬ (x : Int) ≤ (y : Int)) 
    (hQp : ∀ c a a' w, Q (.panic c) a w → Q (.panic c) a' w) (hQ : ∀ u102 u103 u104 u105 u106 u107 u108 u109, Q .normal ⟨#[.slice (some ⟨at_, ot, none⟩) N ct, t1, t2, t3, t4, t5, t6, t7, t8, t9, t10, t11, t12, t13, t14, t15, .int .i64 (i : Int), .int .i64 (k : Int), t18, t19, t20, t21, t22, t23, t24, t25, t26, t27, t28, t29, t30, t31, t32, t33, t34, t35, t36, t37, t38, t39, t40, t41, t42, t43, t44, t45, t46, t47, t48, t49, t50, t51, t52, t53, t54, t55, t56, t57, t58, t59, t60, t61, t62, t63, t64, t65, t66, t67, t68, t69, t70, t71, t72, t73, t74, t75, t76, t77, t78, t79, t80, t81, t82, t83, t84, t85, t86, t87, t88, t89, t90, t91, t92, t93, t94, t95, t96, t97, t98, t99, t100, t101, u102, u103, u104, u105, u106, u107, u108, u109, .bool false, t111, t112, t113, t114, t115, t116, t117, t118, t119, t120, t121, t122, t123, t124, t125, t126, t127, t128, t129, t130, t131, t132, t133, t134, t135, t136, t137, t138, t139, t140, t141, t142, t143, t144, t145, t146, t147, t148], df⟩ wr.drew) :
    rd26.wp Tryd.prog Q ⟨#[.slice (some ⟨at_, ot, none⟩) N ct, t1, t2, t3, t4, t5, t6, t7, t8, t9, t10, t11, t12, t13, t14, t15, .int .i64 (i : Int), .int .i64 (k : Int), t18, t19, t20, t21, t22, t23, t24, t25, t26, t27, t28, t29, t30, t31, t32, t33, t34, t35, t36, t37, t38, t39, t40, t41, t42, t43, t44, t45, t46, t47, t48, t49, t50, t51, t52, t53, t54, t55, t56, t57, t58, t59, t60, t61, t62, t63, t64, t65, t66, t67, t68, t69, t70, t71, t72, t73, t74, t75, t76, t77, t78, t79, t80, t81, t82, t83, t84, t85, t86, t87, t88, t89, t90, t91, t92, t93, t94, t95, t96, t97, t98, t99, t100, t101, t102, t103, t104, t105, t106, t107, t108, t109, t110, t111, t112, t113, t114, t115, t116, t117, t118, t119, t120, t121, t122, t123, t124, t125, t126, t127, t128, t129, t130, t131, t132, t133, t134, t135, t136, t137, t138, t139, t140, t141, t142, t143, t144, t145, t146, t147, t148], df⟩ wr := by
  have HP : Hid (∀ c a a' w, Q (.panic c) a w → Q (.panic c) a' w) := hQp
  have HQ : Hid (∀ u102 u103 u104 u105 u106 u107 u108 u109, Q .normal ⟨#[.slice (some ⟨at_, ot, none⟩) N ct, t1, t2, t3, t4, t5, t6, t7, t8, t9, t10, t11, t12, t13, t14, t15, .int .i64 (i : Int), .int .i64 (k : Int), t18, t19, t20, t21, t22, t23, t24, t25, t26, t27, t28, t29, t30, t31, t32, t33, t34, t35, t36, t37, t38, t39, t40, t41, t42, t43, t44, t45, t46, t47, t48, t49, t50, t51, t52, t53, t54, t55, t56, t57, t58, t59, t60, t61, t62, t63, t64, t65, t66, t67, t68, t69, t70, t71, t72, t73, t74, t75, t76, t77, t78, t79, t80, t81, t82, t83, t84, t85, t86, t87, t88, t89, t90, t91, t92, t93, t94, t95, t96, t97, t98, t99, t100, t101, u102, u103, u104, u105, u106, u107, u108, u109, .bool false, t111, t112, t113, t114, t115, t116, t117, t118, t119, t120, t121, t122, t123, t124, t125, t126, t127, t128, t129, t130, t131, t132, t133, t134, t135, t136, t137, t138, t139, t140, t141, t142, t143, t144, t145, t146, t147, t148], df⟩ wr.drew) := hQ
  clear hQ hQp
  unfold rd26
  refine wp_region_held_drew (S := fun V => V = wr.drew) (by kernel_rfl) rfl (fun hH0 => ?_)
  generalize wr.drew = X at *
  refine tk (i := 0) (v := .slice (some ⟨at_, ot, none⟩) N ct) rfl (by kernel_rfl) (fun _ _ _ h => HP.out _ _ _ _ h) (by kernel_rfl) ?_ hH0 ?_
  · intro V hS; subst hS; go_simp
  simp only [Act.put, y1, y2, y3, y4, y5, y6, y7]
  refine tk (i := 1) (v := .int .i64 (i : Int)) rfl (by kernel_rfl) (fun _ _ _ h => HP.out _ _ _ _ h) (by kernel_rfl) ?_ hH0 ?_
  · intro V hS; subst hS; go_simp
  simp only [Act.put, y1, y2, y3, y4, y5, y6, y7]
  refine tk (i := 2) (v := .pointer (some ⟨at_, ot + i, none⟩)) rfl (by kernel_rfl) (fun _ _ _ h => HP.out _ _ _ _ h) (by kernel_rfl) ?_ hH0 ?_
  · intro V hS; subst hS; go_simp
  simp only [Act.put, y1, y2, y3, y4, y5, y6, y7]
  refine tk (i := 3) (v := .int .i64 (x : Int)) rfl (by kernel_rfl) (fun _ _ _ h => HP.out _ _ _ _ h) (by kernel_rfl) ?_ hH0 ?_
  · intro V hS; subst hS; go_simp
  simp only [Act.put, y1, y2, y3, y4, y5, y6, y7]
  refine tk (i := 4) (v := .slice (some ⟨at_, ot, none⟩) N ct) rfl (by kernel_rfl) (fun _ _ _ h => HP.out _ _ _ _ h) (by kernel_rfl) ?_ hH0 ?_
  · intro V hS; subst hS; go_simp
  simp only [Act.put, y1, y2, y3, y4, y5, y6, y7]
  refine tk (i := 5) (v := .int .i64 (k : Int)) rfl (by kernel_rfl) (fun _ _ _ h => HP.out _ _ _ _ h) (by kernel_rfl) ?_ hH0 ?_
  · intro V hS; subst hS; go_simp
  simp only [Act.put, y1, y2, y3, y4, y5, y6, y7]
  refine tk (i := 6) (v := .pointer (some ⟨at_, ot + k, none⟩)) rfl (by kernel_rfl) (fun _ _ _ h => HP.out _ _ _ _ h) (by kernel_rfl) ?_ hH0 ?_
  · intro V hS; subst hS; go_simp
  simp only [Act.put, y1, y2, y3, y4, y5, y6, y7]
  refine tk (i := 7) (v := .int .i64 (y : Int)) rfl (by kernel_rfl) (fun _ _ _ h => HP.out _ _ _ _ h) (by kernel_rfl) ?_ hH0 ?_
  · intro V hS; subst hS; go_simp
  simp only [Act.put, y1, y2, y3, y4, y5, y6, y7]
  refine tk (i := 8) (v := .bool false) rfl (by kernel_rfl) (fun _ _ _ h => HP.out _ _ _ _ h) (by kernel_rfl) ?_ hH0 ?_
  · intro V hS; subst hS; go_simp
  simp only [Act.put, y1, y2, y3, y4, y5, y6, y7]
  refine wpAnyH_done (by kernel_rfl) ?_ _
  exact HQ.out _ _ _ _ _ _ _ _
end Go.Proofs.YtflabehlaiocaaaDoor
