/- Another region of the reference's ExtractAny. -/
import Derived.Test.YtokkjdelomkfiaaSm6
import Derived.Deep.RegionHeld3
set_option linter.unusedSimpArgs false
set_option linter.unusedVariables false
set_option maxRecDepth 100000
namespace Go.Proofs.Ytokkjdelomkfiaa
open Go.RowKit Go.Deep Go.PlainAid

/-- The region. -/
def c18 : Code := .region 18 #[{ dst := some 129, op := Go.Op.move (Go.Operand.tmp 12), type := 3, pos := "ref.go:340", after := #[], guard := none }, { dst := some 130, op := Go.Op.binOp Go.BinOp.lss 3 (Go.Operand.tmp 129) (Go.Operand.const (Go.Value.int Go.IntKind.i64 0)) 3, type := 4, pos := "ref.go:340", after := #[{ on := 0, ground := Go.Ground.data }], guard := none }, { dst := some 131, op := Go.Op.move (Go.Operand.tmp 130), type := 4, pos := "ref.go:340", after := #[{ on := 1, ground := Go.Ground.data }], guard := none }, { dst := some 132, op := Go.Op.fieldAddr 27 (Go.Operand.tmp 4) 0, type := 0, pos := "ref.go:340", after := #[{ on := 2, ground := Go.Ground.guard }], guard := some (2, true) }, { dst := some 133, op := Go.Op.load 22 (Go.Operand.tmp 132), type := 22, pos := "ref.go:340", after := #[{ on := 3, ground := Go.Ground.data }, { on := 2, ground := Go.Ground.guard }], guard := some (2, true) }, { dst := some 134, op := Go.Op.move (Go.Operand.tmp 13), type := 3, pos := "ref.go:340", after := #[{ on := 2, ground := Go.Ground.guard }], guard := some (2, true) }, { dst := some 135, op := Go.Op.indexAddr 22 (Go.Operand.tmp 133) (Go.Operand.tmp 134), type := 0, pos := "ref.go:340", after := #[{ on := 4, ground := Go.Ground.data }, { on := 5, ground := Go.Ground.data }, { on := 2, ground := Go.Ground.guard }], guard := some (2, true) }, { dst := some 136, op := Go.Op.load 9 (Go.Operand.tmp 135), type := 9, pos := "ref.go:340", after := #[{ on := 6, ground := Go.Ground.data }, { on := 2, ground := Go.Ground.guard }], guard := some (2, true) }, { dst := some 137, op := Go.Op.fieldAddr 27 (Go.Operand.tmp 5) 0, type := 0, pos := "ref.go:340", after := #[{ on := 2, ground := Go.Ground.guard }], guard := some (2, true) }, { dst := some 138, op := Go.Op.load 22 (Go.Operand.tmp 137), type := 22, pos := "ref.go:340", after := #[{ on := 8, ground := Go.Ground.data }, { on := 2, ground := Go.Ground.guard }], guard := some (2, true) }, { dst := some 139, op := Go.Op.move (Go.Operand.tmp 13), type := 3, pos := "ref.go:340", after := #[{ on := 2, ground := Go.Ground.guard }], guard := some (2, true) }, { dst := some 140, op := Go.Op.indexAddr 22 (Go.Operand.tmp 138) (Go.Operand.tmp 139), type := 0, pos := "ref.go:340", after := #[{ on := 9, ground := Go.Ground.data }, { on := 10, ground := Go.Ground.data }, { on := 2, ground := Go.Ground.guard }], guard := some (2, true) }, { dst := some 141, op := Go.Op.load 9 (Go.Operand.tmp 140), type := 9, pos := "ref.go:340", after := #[{ on := 11, ground := Go.Ground.data }, { on := 2, ground := Go.Ground.guard }], guard := some (2, true) }, { dst := some 142, op := Go.Op.binOp Go.BinOp.neq 9 (Go.Operand.tmp 136) (Go.Operand.tmp 141) 9, type := 4, pos := "ref.go:340", after := #[{ on := 7, ground := Go.Ground.data }, { on := 12, ground := Go.Ground.data }, { on := 2, ground := Go.Ground.guard }], guard := some (2, true) }, { dst := some 143, op := Go.Op.pick (Go.Operand.tmp 131) (Go.Operand.tmp 142) (Go.Operand.const (Go.Value.bool false)), type := 4, pos := "ref.go:340", after := #[{ on := 2, ground := Go.Ground.data }, { on := 13, ground := Go.Ground.data }], guard := none }] true
set_option maxHeartbeats 4000000 in
theorem reg18_lo {wr : World} {p0 p1 i n c1 d1 bx ox by' oy : Nat} {f : Int} {x y : ByteArray} {R : Act → World → Prop} {t0 t1 t2 t3 t6 t7 t8 t9 t10 t11 t14 t15 t16 t17 t18 t19 t20 t21 t22 t23 t24 t25 t26 t27 t28 t29 t30 t31 t32 t33 t34 t35 t36 t37 t38 t39 t40 t41 t42 t43 t44 t45 t46 t47 t48 t49 t50 t51 t52 t53 t54 t55 t56 t57 t58 t59 t60 t61 t62 t63 t64 t65 t66 t67 t68 t69 t70 t71 t72 t73 t74 t75 t76 t77 t78 t79 t80 t81 t82 t83 t84 t85 t86 t87 t88 t89 t90 t91 t92 t93 t94 t95 t96 t97 t98 t99 t100 t101 t102 t103 t104 t105 t106 t107 t108 t109 t110 t111 t112 t113 t114 t115 t116 t117 t118 t119 t120 t121 t122 t123 t124 t125 t126 t127 t128 t129 t130 t131 t132 t133 t134 t135 t136 t137 t138 t139 t140 t141 t142 t143 t144 t145 t146 t147 t148 t149 t150 t151 t152 t153 t154 t155 t156 t157 t158 t159 t160 t161 t162 t163 t164 t165 t166 t167 t168 t169 t170 t171 t172 t173 t174 t175 t176 : Value} (il : (i : Int) < (n : Int)) (q0 : wr.drew.cell? ⟨p0, 0, none⟩ = some (.slice (some ⟨bx, ox, none⟩) n c1)) (q1 : wr.drew.cell? ⟨p1, 0, none⟩ = some (.slice (some ⟨by', oy, none⟩) n d1)) (q2 : wr.drew.cell? ⟨bx, ox + i, none⟩ = some (.string x)) (q3 : wr.drew.cell? ⟨by', oy + i, none⟩ = some (.string y)) (hf : f < 0) {bb : Bool} (hb : (x.toList == y.toList) = !bb)
    (hQ : ∀ V u129 u130 u131 u132 u133 u134 u135 u136 u137 u138 u139 u140 u141 u142, V = wr.drew → R ⟨#[t0, t1, t2, t3, .pointer (some ⟨p0, 0, none⟩), .pointer (some ⟨p1, 0, none⟩), t6, t7, t8, t9, t10, t11, .int .i64 f, .int .i64 (i : Int), t14, t15, t16, t17, t18, t19, t20, t21, t22, t23, t24, t25, t26, t27, t28, t29, t30, t31, t32, t33, t34, t35, t36, t37, t38, t39, t40, t41, t42, t43, t44, t45, t46, t47, t48, t49, t50, t51, t52, t53, t54, t55, t56, t57, t58, t59, t60, t61, t62, t63, t64, t65, t66, t67, t68, t69, t70, t71, t72, t73, t74, t75, t76, t77, t78, t79, t80, t81, t82, t83, t84, t85, t86, t87, t88, t89, t90, t91, t92, t93, t94, t95, t96, t97, t98, t99, t100, t101, t102, t103, t104, t105, t106, t107, t108, t109, t110, t111, t112, t113, t114, t115, t116, t117, t118, t119, t120, t121, t122, t123, t124, t125, t126, t127, t128, u129, u130, u131, u132, u133, u134, u135, u136, u137, u138, u139, u140, u141, u142, .bool bb, t144, t145, t146, t147, t148, t149, t150, t151, t152, t153, t154, t155, t156, t157, t158, t159, t160, t161, t162, t163, t164, t165, t166, t167, t168, t169, t170, t171, t172, t173, t174, t175, t176], []⟩ V) :
    c18.wp Try.prog (fun e aa ww => match e with | .normal => R aa ww | _ => False) ⟨#[t0, t1, t2, t3, .pointer (some ⟨p0, 0, none⟩), .pointer (some ⟨p1, 0, none⟩), t6, t7, t8, t9, t10, t11, .int .i64 f, .int .i64 (i : Int), t14, t15, t16, t17, t18, t19, t20, t21, t22, t23, t24, t25, t26, t27, t28, t29, t30, t31, t32, t33, t34, t35, t36, t37, t38, t39, t40, t41, t42, t43, t44, t45, t46, t47, t48, t49, t50, t51, t52, t53, t54, t55, t56, t57, t58, t59, t60, t61, t62, t63, t64, t65, t66, t67, t68, t69, t70, t71, t72, t73, t74, t75, t76, t77, t78, t79, t80, t81, t82, t83, t84, t85, t86, t87, t88, t89, t90, t91, t92, t93, t94, t95, t96, t97, t98, t99, t100, t101, t102, t103, t104, t105, t106, t107, t108, t109, t110, t111, t112, t113, t114, t115, t116, t117, t118, t119, t120, t121, t122, t123, t124, t125, t126, t127, t128, t129, t130, t131, t132, t133, t134, t135, t136, t137, t138, t139, t140, t141, t142, t143, t144, t145, t146, t147, t148, t149, t150, t151, t152, t153, t154, t155, t156, t157, t158, t159, t160, t161, t162, t163, t164, t165, t166, t167, t168, t169, t170, t171, t172, t173, t174, t175, t176], []⟩ wr := by
  have HQ : Hid (∀ V u129 u130 u131 u132 u133 u134 u135 u136 u137 u138 u139 u140 u141 u142, V = wr.drew → R ⟨#[t0, t1, t2, t3, .pointer (some ⟨p0, 0, none⟩), .pointer (some ⟨p1, 0, none⟩), t6, t7, t8, t9, t10, t11, .int .i64 f, .int .i64 (i : Int), t14, t15, t16, t17, t18, t19, t20, t21, t22, t23, t24, t25, t26, t27, t28, t29, t30, t31, t32, t33, t34, t35, t36, t37, t38, t39, t40, t41, t42, t43, t44, t45, t46, t47, t48, t49, t50, t51, t52, t53, t54, t55, t56, t57, t58, t59, t60, t61, t62, t63, t64, t65, t66, t67, t68, t69, t70, t71, t72, t73, t74, t75, t76, t77, t78, t79, t80, t81, t82, t83, t84, t85, t86, t87, t88, t89, t90, t91, t92, t93, t94, t95, t96, t97, t98, t99, t100, t101, t102, t103, t104, t105, t106, t107, t108, t109, t110, t111, t112, t113, t114, t115, t116, t117, t118, t119, t120, t121, t122, t123, t124, t125, t126, t127, t128, u129, u130, u131, u132, u133, u134, u135, u136, u137, u138, u139, u140, u141, u142, .bool bb, t144, t145, t146, t147, t148, t149, t150, t151, t152, t153, t154, t155, t156, t157, t158, t159, t160, t161, t162, t163, t164, t165, t166, t167, t168, t169, t170, t171, t172, t173, t174, t175, t176], []⟩ V) := hQ
  clear hQ
  unfold c18
  refine wp_region_held_drew (S := fun V => V.cell? ⟨p0, 0, none⟩ = some (.slice (some ⟨bx, ox, none⟩) n c1) ∧ V.cell? ⟨p1, 0, none⟩ = some (.slice (some ⟨by', oy, none⟩) n d1) ∧ V.cell? ⟨bx, ox + i, none⟩ = some (.string x) ∧ V.cell? ⟨by', oy + i, none⟩ = some (.string y)) (by kernel_rfl) ⟨q0, q1, q2, q3⟩ (fun hH0 => ?_)
  clear q0 q1 q2 q3
  generalize wr.drew = v0 at *
  refine tk (i := 0) (v := .int .i64 f) rfl (by kernel_rfl) (fun _ _ _ h => h) rfl ?_ hH0 ?_
  · intro V hS; obtain ⟨q0, q1, q2, q3⟩ := hS; go_simp
  simp only [Act.put, y1, y2, y3, y4, y5, y6, y7]
  refine tk (i := 1) (v := .bool true) rfl (by kernel_rfl) (fun _ _ _ h => h) rfl ?_ hH0 ?_
  · intro V hS; obtain ⟨q0, q1, q2, q3⟩ := hS; go_simp
  simp only [Act.put, y1, y2, y3, y4, y5, y6, y7]
  refine tk (i := 2) (v := .bool true) rfl (by kernel_rfl) (fun _ _ _ h => h) rfl ?_ hH0 ?_
  · intro V hS; obtain ⟨q0, q1, q2, q3⟩ := hS; go_simp
  simp only [Act.put, y1, y2, y3, y4, y5, y6, y7]
  refine tk (i := 3) (v := .pointer (some ⟨p0, 0, none⟩)) rfl (by kernel_rfl) (fun _ _ _ h => h) rfl ?_ hH0 ?_
  · intro V hS; obtain ⟨q0, q1, q2, q3⟩ := hS; go_simp
  simp only [Act.put, y1, y2, y3, y4, y5, y6, y7]
  refine tk (i := 4) (v := .slice (some ⟨bx, ox, none⟩) n c1) rfl (by kernel_rfl) (fun _ _ _ h => h) rfl ?_ hH0 ?_
  · intro V hS; obtain ⟨q0, q1, q2, q3⟩ := hS; go_simp
  simp only [Act.put, y1, y2, y3, y4, y5, y6, y7]
  refine tk (i := 5) (v := .int .i64 (i : Int)) rfl (by kernel_rfl) (fun _ _ _ h => h) rfl ?_ hH0 ?_
  · intro V hS; obtain ⟨q0, q1, q2, q3⟩ := hS; go_simp
  simp only [Act.put, y1, y2, y3, y4, y5, y6, y7]
  refine tk (i := 6) (v := .pointer (some ⟨bx, ox + i, none⟩)) rfl (by kernel_rfl) (fun _ _ _ h => h) rfl ?_ hH0 ?_
  · intro V hS; obtain ⟨q0, q1, q2, q3⟩ := hS; go_simp
  simp only [Act.put, y1, y2, y3, y4, y5, y6, y7]
  refine tk (i := 7) (v := .string x) rfl (by kernel_rfl) (fun _ _ _ h => h) rfl ?_ hH0 ?_
  · intro V hS; obtain ⟨q0, q1, q2, q3⟩ := hS; go_simp
  simp only [Act.put, y1, y2, y3, y4, y5, y6, y7]
  refine tk (i := 8) (v := .pointer (some ⟨p1, 0, none⟩)) rfl (by kernel_rfl) (fun _ _ _ h => h) rfl ?_ hH0 ?_
  · intro V hS; obtain ⟨q0, q1, q2, q3⟩ := hS; go_simp
  simp only [Act.put, y1, y2, y3, y4, y5, y6, y7]
  refine tk (i := 9) (v := .slice (some ⟨by', oy, none⟩) n d1) rfl (by kernel_rfl) (fun _ _ _ h => h) rfl ?_ hH0 ?_
  · intro V hS; obtain ⟨q0, q1, q2, q3⟩ := hS; go_simp
  simp only [Act.put, y1, y2, y3, y4, y5, y6, y7]
  refine tk (i := 10) (v := .int .i64 (i : Int)) rfl (by kernel_rfl) (fun _ _ _ h => h) rfl ?_ hH0 ?_
  · intro V hS; obtain ⟨q0, q1, q2, q3⟩ := hS; go_simp
  simp only [Act.put, y1, y2, y3, y4, y5, y6, y7]
  refine tk (i := 11) (v := .pointer (some ⟨by', oy + i, none⟩)) rfl (by kernel_rfl) (fun _ _ _ h => h) rfl ?_ hH0 ?_
  · intro V hS; obtain ⟨q0, q1, q2, q3⟩ := hS; go_simp
  simp only [Act.put, y1, y2, y3, y4, y5, y6, y7]
  refine tk (i := 12) (v := .string y) rfl (by kernel_rfl) (fun _ _ _ h => h) rfl ?_ hH0 ?_
  · intro V hS; obtain ⟨q0, q1, q2, q3⟩ := hS; go_simp
  simp only [Act.put, y1, y2, y3, y4, y5, y6, y7]
  refine tk (i := 13) (v := .bool bb) rfl (by kernel_rfl) (fun _ _ _ h => h) rfl ?_ hH0 ?_
  · intro V hS; obtain ⟨q0, q1, q2, q3⟩ := hS; go_simp
  simp only [Act.put, y1, y2, y3, y4, y5, y6, y7]
  refine tk (i := 14) (v := .bool bb) rfl (by kernel_rfl) (fun _ _ _ h => h) rfl ?_ hH0 ?_
  · intro V hS; obtain ⟨q0, q1, q2, q3⟩ := hS; go_simp
  simp only [Act.put, y1, y2, y3, y4, y5, y6, y7]
  refine wpAnyH_done (by kernel_rfl) ?_ _
  exact HQ.out _ _ _ _ _ _ _ _ _ _ _ _ _ _ _ rfl
set_option maxHeartbeats 4000000 in
theorem reg18_hi {wr : World} {p0 p1 i n c1 d1 bx ox by' oy : Nat} {f : Int} {x y : ByteArray} {R : Act → World → Prop} {t0 t1 t2 t3 t6 t7 t8 t9 t10 t11 t14 t15 t16 t17 t18 t19 t20 t21 t22 t23 t24 t25 t26 t27 t28 t29 t30 t31 t32 t33 t34 t35 t36 t37 t38 t39 t40 t41 t42 t43 t44 t45 t46 t47 t48 t49 t50 t51 t52 t53 t54 t55 t56 t57 t58 t59 t60 t61 t62 t63 t64 t65 t66 t67 t68 t69 t70 t71 t72 t73 t74 t75 t76 t77 t78 t79 t80 t81 t82 t83 t84 t85 t86 t87 t88 t89 t90 t91 t92 t93 t94 t95 t96 t97 t98 t99 t100 t101 t102 t103 t104 t105 t106 t107 t108 t109 t110 t111 t112 t113 t114 t115 t116 t117 t118 t119 t120 t121 t122 t123 t124 t125 t126 t127 t128 t129 t130 t131 t132 t133 t134 t135 t136 t137 t138 t139 t140 t141 t142 t143 t144 t145 t146 t147 t148 t149 t150 t151 t152 t153 t154 t155 t156 t157 t158 t159 t160 t161 t162 t163 t164 t165 t166 t167 t168 t169 t170 t171 t172 t173 t174 t175 t176 : Value} (il : (i : Int) < (n : Int)) (q0 : wr.drew.cell? ⟨p0, 0, none⟩ = some (.slice (some ⟨bx, ox, none⟩) n c1)) (q1 : wr.drew.cell? ⟨p1, 0, none⟩ = some (.slice (some ⟨by', oy, none⟩) n d1)) (q2 : wr.drew.cell? ⟨bx, ox + i, none⟩ = some (.string x)) (q3 : wr.drew.cell? ⟨by', oy + i, none⟩ = some (.string y)) (hf : ¬ f < 0)
    (hQ : ∀ V u129 u130 u131 u132 u133 u134 u135 u136 u137 u138 u139 u140 u141 u142, V = wr.drew → R ⟨#[t0, t1, t2, t3, .pointer (some ⟨p0, 0, none⟩), .pointer (some ⟨p1, 0, none⟩), t6, t7, t8, t9, t10, t11, .int .i64 f, .int .i64 (i : Int), t14, t15, t16, t17, t18, t19, t20, t21, t22, t23, t24, t25, t26, t27, t28, t29, t30, t31, t32, t33, t34, t35, t36, t37, t38, t39, t40, t41, t42, t43, t44, t45, t46, t47, t48, t49, t50, t51, t52, t53, t54, t55, t56, t57, t58, t59, t60, t61, t62, t63, t64, t65, t66, t67, t68, t69, t70, t71, t72, t73, t74, t75, t76, t77, t78, t79, t80, t81, t82, t83, t84, t85, t86, t87, t88, t89, t90, t91, t92, t93, t94, t95, t96, t97, t98, t99, t100, t101, t102, t103, t104, t105, t106, t107, t108, t109, t110, t111, t112, t113, t114, t115, t116, t117, t118, t119, t120, t121, t122, t123, t124, t125, t126, t127, t128, u129, u130, u131, u132, u133, u134, u135, u136, u137, u138, u139, u140, u141, u142, .bool false, t144, t145, t146, t147, t148, t149, t150, t151, t152, t153, t154, t155, t156, t157, t158, t159, t160, t161, t162, t163, t164, t165, t166, t167, t168, t169, t170, t171, t172, t173, t174, t175, t176], []⟩ V) :
    c18.wp Try.prog (fun e aa ww => match e with | .normal => R aa ww | _ => False) ⟨#[t0, t1, t2, t3, .pointer (some ⟨p0, 0, none⟩), .pointer (some ⟨p1, 0, none⟩), t6, t7, t8, t9, t10, t11, .int .i64 f, .int .i64 (i : Int), t14, t15, t16, t17, t18, t19, t20, t21, t22, t23, t24, t25, t26, t27, t28, t29, t30, t31, t32, t33, t34, t35, t36, t37, t38, t39, t40, t41, t42, t43, t44, t45, t46, t47, t48, t49, t50, t51, t52, t53, t54, t55, t56, t57, t58, t59, t60, t61, t62, t63, t64, t65, t66, t67, t68, t69, t70, t71, t72, t73, t74, t75, t76, t77, t78, t79, t80, t81, t82, t83, t84, t85, t86, t87, t88, t89, t90, t91, t92, t93, t94, t95, t96, t97, t98, t99, t100, t101, t102, t103, t104, t105, t106, t107, t108, t109, t110, t111, t112, t113, t114, t115, t116, t117, t118, t119, t120, t121, t122, t123, t124, t125, t126, t127, t128, t129, t130, t131, t132, t133, t134, t135, t136, t137, t138, t139, t140, t141, t142, t143, t144, t145, t146, t147, t148, t149, t150, t151, t152, t153, t154, t155, t156, t157, t158, t159, t160, t161, t162, t163, t164, t165, t166, t167, t168, t169, t170, t171, t172, t173, t174, t175, t176], []⟩ wr := by
  have HQ : Hid (∀ V u129 u130 u131 u132 u133 u134 u135 u136 u137 u138 u139 u140 u141 u142, V = wr.drew → R ⟨#[t0, t1, t2, t3, .pointer (some ⟨p0, 0, none⟩), .pointer (some ⟨p1, 0, none⟩), t6, t7, t8, t9, t10, t11, .int .i64 f, .int .i64 (i : Int), t14, t15, t16, t17, t18, t19, t20, t21, t22, t23, t24, t25, t26, t27, t28, t29, t30, t31, t32, t33, t34, t35, t36, t37, t38, t39, t40, t41, t42, t43, t44, t45, t46, t47, t48, t49, t50, t51, t52, t53, t54, t55, t56, t57, t58, t59, t60, t61, t62, t63, t64, t65, t66, t67, t68, t69, t70, t71, t72, t73, t74, t75, t76, t77, t78, t79, t80, t81, t82, t83, t84, t85, t86, t87, t88, t89, t90, t91, t92, t93, t94, t95, t96, t97, t98, t99, t100, t101, t102, t103, t104, t105, t106, t107, t108, t109, t110, t111, t112, t113, t114, t115, t116, t117, t118, t119, t120, t121, t122, t123, t124, t125, t126, t127, t128, u129, u130, u131, u132, u133, u134, u135, u136, u137, u138, u139, u140, u141, u142, .bool false, t144, t145, t146, t147, t148, t149, t150, t151, t152, t153, t154, t155, t156, t157, t158, t159, t160, t161, t162, t163, t164, t165, t166, t167, t168, t169, t170, t171, t172, t173, t174, t175, t176], []⟩ V) := hQ
  clear hQ
  unfold c18
  refine wp_region_held_drew (S := fun V => V.cell? ⟨p0, 0, none⟩ = some (.slice (some ⟨bx, ox, none⟩) n c1) ∧ V.cell? ⟨p1, 0, none⟩ = some (.slice (some ⟨by', oy, none⟩) n d1) ∧ V.cell? ⟨bx, ox + i, none⟩ = some (.string x) ∧ V.cell? ⟨by', oy + i, none⟩ = some (.string y)) (by kernel_rfl) ⟨q0, q1, q2, q3⟩ (fun hH0 => ?_)
  clear q0 q1 q2 q3
  generalize wr.drew = v0 at *
  refine tk (i := 0) (v := .int .i64 f) rfl (by kernel_rfl) (fun _ _ _ h => h) rfl ?_ hH0 ?_
  · intro V hS; obtain ⟨q0, q1, q2, q3⟩ := hS; go_simp
  simp only [Act.put, y1, y2, y3, y4, y5, y6, y7]
  refine tk (i := 1) (v := .bool false) rfl (by kernel_rfl) (fun _ _ _ h => h) rfl ?_ hH0 ?_
  · intro V hS; obtain ⟨q0, q1, q2, q3⟩ := hS; go_simp
  simp only [Act.put, y1, y2, y3, y4, y5, y6, y7]
  refine tk (i := 2) (v := .bool false) rfl (by kernel_rfl) (fun _ _ _ h => h) rfl ?_ hH0 ?_
  · intro V hS; obtain ⟨q0, q1, q2, q3⟩ := hS; go_simp
  simp only [Act.put, y1, y2, y3, y4, y5, y6, y7]
  refine tkU (i := 3) rfl (by kernel_rfl) (fun _ _ _ h => h) rfl hH0 ?_
  simp only [Act.put, y1, y2, y3, y4, y5, y6, y7]
  refine tkU (i := 4) rfl (by kernel_rfl) (fun _ _ _ h => h) rfl hH0 ?_
  simp only [Act.put, y1, y2, y3, y4, y5, y6, y7]
  refine tkU (i := 5) rfl (by kernel_rfl) (fun _ _ _ h => h) rfl hH0 ?_
  simp only [Act.put, y1, y2, y3, y4, y5, y6, y7]
  refine tkU (i := 6) rfl (by kernel_rfl) (fun _ _ _ h => h) rfl hH0 ?_
  simp only [Act.put, y1, y2, y3, y4, y5, y6, y7]
  refine tkU (i := 7) rfl (by kernel_rfl) (fun _ _ _ h => h) rfl hH0 ?_
  simp only [Act.put, y1, y2, y3, y4, y5, y6, y7]
  refine tkU (i := 8) rfl (by kernel_rfl) (fun _ _ _ h => h) rfl hH0 ?_
  simp only [Act.put, y1, y2, y3, y4, y5, y6, y7]
  refine tkU (i := 9) rfl (by kernel_rfl) (fun _ _ _ h => h) rfl hH0 ?_
  simp only [Act.put, y1, y2, y3, y4, y5, y6, y7]
  refine tkU (i := 10) rfl (by kernel_rfl) (fun _ _ _ h => h) rfl hH0 ?_
  simp only [Act.put, y1, y2, y3, y4, y5, y6, y7]
  refine tkU (i := 11) rfl (by kernel_rfl) (fun _ _ _ h => h) rfl hH0 ?_
  simp only [Act.put, y1, y2, y3, y4, y5, y6, y7]
  refine tkU (i := 12) rfl (by kernel_rfl) (fun _ _ _ h => h) rfl hH0 ?_
  simp only [Act.put, y1, y2, y3, y4, y5, y6, y7]
  refine tkU (i := 13) rfl (by kernel_rfl) (fun _ _ _ h => h) rfl hH0 ?_
  simp only [Act.put, y1, y2, y3, y4, y5, y6, y7]
  refine tk (i := 14) (v := .bool false) rfl (by kernel_rfl) (fun _ _ _ h => h) rfl ?_ hH0 ?_
  · intro V hS; obtain ⟨q0, q1, q2, q3⟩ := hS; go_simp
  simp only [Act.put, y1, y2, y3, y4, y5, y6, y7]
  refine wpAnyH_done (by kernel_rfl) ?_ _
  exact HQ.out _ _ _ _ _ _ _ _ _ _ _ _ _ _ _ rfl
end Go.Proofs.Ytokkjdelomkfiaa
