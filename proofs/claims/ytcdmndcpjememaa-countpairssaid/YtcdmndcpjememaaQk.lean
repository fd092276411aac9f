/- A region of the document's Pairs. -/
import Derived.Test.YtcdmndcpjememaaQj
import Derived.Test.YtcdmndcpjememaaPr
import Derived.Deep.RegionHeld
import Derived.Deep.RegionHeld3
set_option linter.unusedSimpArgs false
set_option linter.unusedVariables false
set_option maxRecDepth 100000
namespace Go.Proofs.Ytcdmndcpjememaa
open Go.RowKit Go.Deep Go.PlainAid

def rg19 : Code := Go.Code.region 19 #[ { dst := some 47, op := Go.Op.move (Go.Operand.tmp 9), type := 3, pos := "ref.go:124", after := #[], guard := none }, { dst := some 48, op := Go.Op.move (Go.Operand.tmp 11), type := 3, pos := "ref.go:124", after := #[], guard := none }, { dst := some 49, op := Go.Op.binOp Go.BinOp.neq 3 (Go.Operand.tmp 47) (Go.Operand.tmp 48) 3, type := 4, pos := "ref.go:124", after := #[{ on := 0, ground := Go.Ground.data }, { on := 1, ground := Go.Ground.data }], guard := none }, { dst := some 50, op := Go.Op.move (Go.Operand.tmp 49), type := 4, pos := "ref.go:124", after := #[{ on := 2, ground := Go.Ground.data }], guard := none }, { dst := some 51, op := Go.Op.move (Go.Operand.tmp 14), type := 31, pos := "ref.go:124", after := #[{ on := 3, ground := Go.Ground.guard }], guard := some (3, true) }, { dst := some 52, op := Go.Op.move (Go.Operand.tmp 9), type := 3, pos := "ref.go:124", after := #[{ on := 3, ground := Go.Ground.guard }], guard := some (3, true) }, { dst := some 53, op := Go.Op.indexAddr 31 (Go.Operand.tmp 51) (Go.Operand.tmp 52), type := 0, pos := "ref.go:124", after := #[{ on := 4, ground := Go.Ground.data }, { on := 5, ground := Go.Ground.data }, { on := 3, ground := Go.Ground.guard }], guard := some (3, true) }, { dst := some 54, op := Go.Op.load 3 (Go.Operand.tmp 53), type := 3, pos := "ref.go:124", after := #[{ on := 6, ground := Go.Ground.data }, { on := 3, ground := Go.Ground.guard }], guard := some (3, true) }, { dst := some 55, op := Go.Op.binOp Go.BinOp.neq 3 (Go.Operand.tmp 54) (Go.Operand.const (Go.Value.int Go.IntKind.i64 0)) 3, type := 4, pos := "ref.go:124", after := #[{ on := 7, ground := Go.Ground.data }, { on := 3, ground := Go.Ground.guard }], guard := some (3, true) }, { dst := some 56, op := Go.Op.pick (Go.Operand.tmp 50) (Go.Operand.tmp 55) (Go.Operand.const (Go.Value.bool false)), type := 4, pos := "ref.go:124", after := #[{ on := 3, ground := Go.Ground.data }, { on := 8, ground := Go.Ground.data }], guard := none }, { dst := some 57, op := Go.Op.move (Go.Operand.tmp 56), type := 4, pos := "ref.go:124", after := #[{ on := 9, ground := Go.Ground.data }, { on := 3, ground := Go.Ground.chain }], guard := none }, { dst := some 58, op := Go.Op.move (Go.Operand.tmp 14), type := 31, pos := "ref.go:124", after := #[{ on := 10, ground := Go.Ground.guard }], guard := some (10, true) }, { dst := some 59, op := Go.Op.move (Go.Operand.tmp 11), type := 3, pos := "ref.go:124", after := #[{ on := 10, ground := Go.Ground.guard }], guard := some (10, true) }, { dst := some 60, op := Go.Op.indexAddr 31 (Go.Operand.tmp 58) (Go.Operand.tmp 59), type := 0, pos := "ref.go:124", after := #[{ on := 11, ground := Go.Ground.data }, { on := 12, ground := Go.Ground.data }, { on := 10, ground := Go.Ground.guard }], guard := some (10, true) }, { dst := some 61, op := Go.Op.load 3 (Go.Operand.tmp 60), type := 3, pos := "ref.go:124", after := #[{ on := 13, ground := Go.Ground.data }, { on := 10, ground := Go.Ground.guard }], guard := some (10, true) }, { dst := some 62, op := Go.Op.binOp Go.BinOp.eql 3 (Go.Operand.tmp 61) (Go.Operand.const (Go.Value.int Go.IntKind.i64 0)) 3, type := 4, pos := "ref.go:124", after := #[{ on := 14, ground := Go.Ground.data }, { on := 10, ground := Go.Ground.guard }], guard := some (10, true) }, { dst := some 63, op := Go.Op.move (Go.Operand.tmp 62), type := 4, pos := "ref.go:124", after := #[{ on := 15, ground := Go.Ground.data }, { on := 10, ground := Go.Ground.chain }, { on := 10, ground := Go.Ground.guard }], guard := some (10, true) }, { dst := some 64, op := Go.Op.move (Go.Operand.tmp 14), type := 31, pos := "ref.go:124", after := #[{ on := 16, ground := Go.Ground.guard }], guard := some (16, false) }, { dst := some 65, op := Go.Op.move (Go.Operand.tmp 9), type := 3, pos := "ref.go:124", after := #[{ on := 16, ground := Go.Ground.guard }], guard := some (16, false) }, { dst := some 66, op := Go.Op.indexAddr 31 (Go.Operand.tmp 64) (Go.Operand.tmp 65), type := 0, pos := "ref.go:124", after := #[{ on := 17, ground := Go.Ground.data }, { on := 18, ground := Go.Ground.data }, { on := 16, ground := Go.Ground.guard }], guard := some (16, false) }, { dst := some 67, op := Go.Op.load 3 (Go.Operand.tmp 66), type := 3, pos := "ref.go:124", after := #[{ on := 19, ground := Go.Ground.data }, { on := 16, ground := Go.Ground.guard }], guard := some (16, false) }, { dst := some 68, op := Go.Op.move (Go.Operand.tmp 14), type := 31, pos := "ref.go:124", after := #[{ on := 16, ground := Go.Ground.guard }], guard := some (16, false) }, { dst := some 69, op := Go.Op.move (Go.Operand.tmp 11), type := 3, pos := "ref.go:124", after := #[{ on := 16, ground := Go.Ground.guard }], guard := some (16, false) }, { dst := some 70, op := Go.Op.indexAddr 31 (Go.Operand.tmp 68) (Go.Operand.tmp 69), type := 0, pos := "ref.go:124", after := #[{ on := 21, ground := Go.Ground.data }, { on := 22, ground := Go.Ground.data }, { on := 16, ground := Go.Ground.guard }], guard := some (16, false) }, { dst := some 71, op := Go.Op.load 3 (Go.Operand.tmp 70), type := 3, pos := "ref.go:124", after := #[{ on := 23, ground := Go.Ground.data }, { on := 16, ground := Go.Ground.guard }], guard := some (16, false) }, { dst := some 72, op := Go.Op.binOp Go.BinOp.lss 3 (Go.Operand.tmp 67) (Go.Operand.tmp 71) 3, type := 4, pos := "ref.go:124", after := #[{ on := 20, ground := Go.Ground.data }, { on := 24, ground := Go.Ground.data }, { on := 16, ground := Go.Ground.guard }], guard := some (16, false) }, { dst := some 73, op := Go.Op.pick (Go.Operand.tmp 63) (Go.Operand.const (Go.Value.bool true)) (Go.Operand.tmp 72), type := 4, pos := "ref.go:124", after := #[{ on := 16, ground := Go.Ground.data }, { on := 25, ground := Go.Ground.data }, { on := 10, ground := Go.Ground.guard }], guard := some (10, true) }, { dst := some 74, op := Go.Op.pick (Go.Operand.tmp 57) (Go.Operand.tmp 73) (Go.Operand.const (Go.Value.bool false)), type := 4, pos := "ref.go:124", after := #[{ on := 10, ground := Go.Ground.data }, { on := 26, ground := Go.Ground.data }], guard := none }] true
set_option maxHeartbeats 4000000 in
theorem rg19_1 {wr : World} {df : List Deferred} {sb so n c i j : Nat} {Q : Exit → Act → World → Prop} {t0 t1 t2 t3 t4 t5 t6 t7 t8 t10 t12 t13 t15 t16 t17 t18 t19 t20 t21 t22 t23 t24 t25 t26 t27 t28 t29 t30 t31 t32 t33 t34 t35 t36 t37 t38 t39 t40 t41 t42 t43 t44 t45 t46 t47 t48 t49 t50 t51 t52 t53 t54 t55 t56 t57 t58 t59 t60 t61 t62 t63 t64 t65 t66 t67 t68 t69 t70 t71 t72 t73 t74 t75 t76 t77 t78 t79 t80 t81 t82 t83 t84 t85 t86 t87 t88 : Value} (il : (i : Int) < (n : Int)) (jl : (j : Int) < (n : Int)) (e1 : ((i : Int) != (j : Int)) = false)
    (hQp : ∀ c a a' w, Q (.panic c) a w → Q (.panic c) a' w) (hQ : ∀ u47 u48 u49 u50 u51 u52 u53 u54 u55 u56 u57 u58 u59 u60 u61 u62 u63 u64 u65 u66 u67 u68 u69 u70 u71 u72 u73, Q .normal ⟨#[t0, t1, t2, t3, t4, t5, t6, t7, t8, .int .i64 (i : Int), t10, .int .i64 (j : Int), t12, t13, .slice (some ⟨sb, so, none⟩) n c, t15, t16, t17, t18, t19, t20, t21, t22, t23, t24, t25, t26, t27, t28, t29, t30, t31, t32, t33, t34, t35, t36, t37, t38, t39, t40, t41, t42, t43, t44, t45, t46, u47, u48, u49, u50, u51, u52, u53, u54, u55, u56, u57, u58, u59, u60, u61, u62, u63, u64, u65, u66, u67, u68, u69, u70, u71, u72, u73, .bool false, t75, t76, t77, t78, t79, t80, t81, t82, t83, t84, t85, t86, t87, t88], df⟩ wr.drew) :
    rg19.wp Try.prog Q ⟨#[t0, t1, t2, t3, t4, t5, t6, t7, t8, .int .i64 (i : Int), t10, .int .i64 (j : Int), t12, t13, .slice (some ⟨sb, so, none⟩) n c, t15, t16, t17, t18, t19, t20, t21, t22, t23, t24, t25, t26, t27, t28, t29, t30, t31, t32, t33, t34, t35, t36, t37, t38, t39, t40, t41, t42, t43, t44, t45, t46, t47, t48, t49, t50, t51, t52, t53, t54, t55, t56, t57, t58, t59, t60, t61, t62, t63, t64, t65, t66, t67, t68, t69, t70, t71, t72, t73, t74, t75, t76, t77, t78, t79, t80, t81, t82, t83, t84, t85, t86, t87, t88], df⟩ wr := by
  have HP : Hid (∀ c a a' w, Q (.panic c) a w → Q (.panic c) a' w) := hQp
  have HQ : Hid (∀ u47 u48 u49 u50 u51 u52 u53 u54 u55 u56 u57 u58 u59 u60 u61 u62 u63 u64 u65 u66 u67 u68 u69 u70 u71 u72 u73, Q .normal ⟨#[t0, t1, t2, t3, t4, t5, t6, t7, t8, .int .i64 (i : Int), t10, .int .i64 (j : Int), t12, t13, .slice (some ⟨sb, so, none⟩) n c, t15, t16, t17, t18, t19, t20, t21, t22, t23, t24, t25, t26, t27, t28, t29, t30, t31, t32, t33, t34, t35, t36, t37, t38, t39, t40, t41, t42, t43, t44, t45, t46, u47, u48, u49, u50, u51, u52, u53, u54, u55, u56, u57, u58, u59, u60, u61, u62, u63, u64, u65, u66, u67, u68, u69, u70, u71, u72, u73, .bool false, t75, t76, t77, t78, t79, t80, t81, t82, t83, t84, t85, t86, t87, t88], df⟩ wr.drew) := hQ
  clear hQ hQp
  unfold rg19
  refine wp_region_held_drew (S := fun V => V = wr.drew) (by kernel_rfl) rfl (fun hH0 => ?_)
  generalize wr.drew = X at *
  refine tk (i := 0) (v := .int .i64 (i : Int)) rfl (by kernel_rfl) (fun _ _ _ h => HP.out _ _ _ _ h) (by kernel_rfl) ?_ hH0 ?_
  · intro V hS; subst hS; go_simp
  simp only [Act.put, y1, y2, y3, y4, y5, y6, y7]
  refine tk (i := 1) (v := .int .i64 (j : Int)) rfl (by kernel_rfl) (fun _ _ _ h => HP.out _ _ _ _ h) (by kernel_rfl) ?_ hH0 ?_
  · intro V hS; subst hS; go_simp
  simp only [Act.put, y1, y2, y3, y4, y5, y6, y7]
  refine tk (i := 2) (v := .bool false) rfl (by kernel_rfl) (fun _ _ _ h => HP.out _ _ _ _ h) (by kernel_rfl) ?_ hH0 ?_
  · intro V hS; subst hS; go_simp
  simp only [Act.put, y1, y2, y3, y4, y5, y6, y7]
  refine tk (i := 3) (v := .bool false) rfl (by kernel_rfl) (fun _ _ _ h => HP.out _ _ _ _ h) (by kernel_rfl) ?_ hH0 ?_
  · intro V hS; subst hS; go_simp
  simp only [Act.put, y1, y2, y3, y4, y5, y6, y7]
  refine tkU (i := 4) rfl (by kernel_rfl) (fun _ _ _ h => HP.out _ _ _ _ h) (by kernel_rfl) hH0 ?_
  simp only [Act.put, y1, y2, y3, y4, y5, y6, y7]
  refine tkU (i := 5) rfl (by kernel_rfl) (fun _ _ _ h => HP.out _ _ _ _ h) (by kernel_rfl) hH0 ?_
  simp only [Act.put, y1, y2, y3, y4, y5, y6, y7]
  refine tkU (i := 6) rfl (by kernel_rfl) (fun _ _ _ h => HP.out _ _ _ _ h) (by kernel_rfl) hH0 ?_
  simp only [Act.put, y1, y2, y3, y4, y5, y6, y7]
  refine tkU (i := 7) rfl (by kernel_rfl) (fun _ _ _ h => HP.out _ _ _ _ h) (by kernel_rfl) hH0 ?_
  simp only [Act.put, y1, y2, y3, y4, y5, y6, y7]
  refine tkU (i := 8) rfl (by kernel_rfl) (fun _ _ _ h => HP.out _ _ _ _ h) (by kernel_rfl) hH0 ?_
  simp only [Act.put, y1, y2, y3, y4, y5, y6, y7]
  refine tk (i := 9) (v := .bool false) rfl (by kernel_rfl) (fun _ _ _ h => HP.out _ _ _ _ h) (by kernel_rfl) ?_ hH0 ?_
  · intro V hS; subst hS; go_simp
  simp only [Act.put, y1, y2, y3, y4, y5, y6, y7]
  refine tk (i := 10) (v := .bool false) rfl (by kernel_rfl) (fun _ _ _ h => HP.out _ _ _ _ h) (by kernel_rfl) ?_ hH0 ?_
  · intro V hS; subst hS; go_simp
  simp only [Act.put, y1, y2, y3, y4, y5, y6, y7]
  refine tkU (i := 11) rfl (by kernel_rfl) (fun _ _ _ h => HP.out _ _ _ _ h) (by kernel_rfl) hH0 ?_
  simp only [Act.put, y1, y2, y3, y4, y5, y6, y7]
  refine tkU (i := 12) rfl (by kernel_rfl) (fun _ _ _ h => HP.out _ _ _ _ h) (by kernel_rfl) hH0 ?_
  simp only [Act.put, y1, y2, y3, y4, y5, y6, y7]
  refine tkU (i := 13) rfl (by kernel_rfl) (fun _ _ _ h => HP.out _ _ _ _ h) (by kernel_rfl) hH0 ?_
  simp only [Act.put, y1, y2, y3, y4, y5, y6, y7]
  refine tkU (i := 14) rfl (by kernel_rfl) (fun _ _ _ h => HP.out _ _ _ _ h) (by kernel_rfl) hH0 ?_
  simp only [Act.put, y1, y2, y3, y4, y5, y6, y7]
  refine tkU (i := 15) rfl (by kernel_rfl) (fun _ _ _ h => HP.out _ _ _ _ h) (by kernel_rfl) hH0 ?_
  simp only [Act.put, y1, y2, y3, y4, y5, y6, y7]
  refine tkU (i := 16) rfl (by kernel_rfl) (fun _ _ _ h => HP.out _ _ _ _ h) (by kernel_rfl) hH0 ?_
  simp only [Act.put, y1, y2, y3, y4, y5, y6, y7]
  refine tkU (i := 17) rfl (by kernel_rfl) (fun _ _ _ h => HP.out _ _ _ _ h) (by kernel_rfl) hH0 ?_
  simp only [Act.put, y1, y2, y3, y4, y5, y6, y7]
  refine tkU (i := 18) rfl (by kernel_rfl) (fun _ _ _ h => HP.out _ _ _ _ h) (by kernel_rfl) hH0 ?_
  simp only [Act.put, y1, y2, y3, y4, y5, y6, y7]
  refine tkU (i := 19) rfl (by kernel_rfl) (fun _ _ _ h => HP.out _ _ _ _ h) (by kernel_rfl) hH0 ?_
  simp only [Act.put, y1, y2, y3, y4, y5, y6, y7]
  refine tkU (i := 20) rfl (by kernel_rfl) (fun _ _ _ h => HP.out _ _ _ _ h) (by kernel_rfl) hH0 ?_
  simp only [Act.put, y1, y2, y3, y4, y5, y6, y7]
  refine tkU (i := 21) rfl (by kernel_rfl) (fun _ _ _ h => HP.out _ _ _ _ h) (by kernel_rfl) hH0 ?_
  simp only [Act.put, y1, y2, y3, y4, y5, y6, y7]
  refine tkU (i := 22) rfl (by kernel_rfl) (fun _ _ _ h => HP.out _ _ _ _ h) (by kernel_rfl) hH0 ?_
  simp only [Act.put, y1, y2, y3, y4, y5, y6, y7]
  refine tkU (i := 23) rfl (by kernel_rfl) (fun _ _ _ h => HP.out _ _ _ _ h) (by kernel_rfl) hH0 ?_
  simp only [Act.put, y1, y2, y3, y4, y5, y6, y7]
  refine tkU (i := 24) rfl (by kernel_rfl) (fun _ _ _ h => HP.out _ _ _ _ h) (by kernel_rfl) hH0 ?_
  simp only [Act.put, y1, y2, y3, y4, y5, y6, y7]
  refine tkU (i := 25) rfl (by kernel_rfl) (fun _ _ _ h => HP.out _ _ _ _ h) (by kernel_rfl) hH0 ?_
  simp only [Act.put, y1, y2, y3, y4, y5, y6, y7]
  refine tkU (i := 26) rfl (by kernel_rfl) (fun _ _ _ h => HP.out _ _ _ _ h) (by kernel_rfl) hH0 ?_
  simp only [Act.put, y1, y2, y3, y4, y5, y6, y7]
  refine tk (i := 27) (v := .bool false) rfl (by kernel_rfl) (fun _ _ _ h => HP.out _ _ _ _ h) (by kernel_rfl) ?_ hH0 ?_
  · intro V hS; subst hS; go_simp
  simp only [Act.put, y1, y2, y3, y4, y5, y6, y7]
  refine wpAnyH_done (by kernel_rfl) ?_ _
  exact HQ.out _ _ _ _ _ _ _ _ _ _ _ _ _ _ _ _ _ _ _ _ _ _ _ _ _ _ _
set_option maxHeartbeats 4000000 in
theorem rg19_2 {wr : World} {df : List Deferred} {sb so n c i j : Nat} {bi : Int} {Q : Exit → Act → World → Prop} {t0 t1 t2 t3 t4 t5 t6 t7 t8 t10 t12 t13 t15 t16 t17 t18 t19 t20 t21 t22 t23 t24 t25 t26 t27 t28 t29 t30 t31 t32 t33 t34 t35 t36 t37 t38 t39 t40 t41 t42 t43 t44 t45 t46 t47 t48 t49 t50 t51 t52 t53 t54 t55 t56 t57 t58 t59 t60 t61 t62 t63 t64 t65 t66 t67 t68 t69 t70 t71 t72 t73 t74 t75 t76 t77 t78 t79 t80 t81 t82 t83 t84 t85 t86 t87 t88 : Value} (il : (i : Int) < (n : Int)) (jl : (j : Int) < (n : Int)) (e1 : ((i : Int) != (j : Int)) = true) (p1 : wr.drew.cell? ⟨sb, so + i, none⟩ = some (.int .i64 bi)) (e2 : (bi != 0) = false)
    (hQp : ∀ c a a' w, Q (.panic c) a w → Q (.panic c) a' w) (hQ : ∀ u47 u48 u49 u50 u51 u52 u53 u54 u55 u56 u57 u58 u59 u60 u61 u62 u63 u64 u65 u66 u67 u68 u69 u70 u71 u72 u73, Q .normal ⟨#[t0, t1, t2, t3, t4, t5, t6, t7, t8, .int .i64 (i : Int), t10, .int .i64 (j : Int), t12, t13, .slice (some ⟨sb, so, none⟩) n c, t15, t16, t17, t18, t19, t20, t21, t22, t23, t24, t25, t26, t27, t28, t29, t30, t31, t32, t33, t34, t35, t36, t37, t38, t39, t40, t41, t42, t43, t44, t45, t46, u47, u48, u49, u50, u51, u52, u53, u54, u55, u56, u57, u58, u59, u60, u61, u62, u63, u64, u65, u66, u67, u68, u69, u70, u71, u72, u73, .bool false, t75, t76, t77, t78, t79, t80, t81, t82, t83, t84, t85, t86, t87, t88], df⟩ wr.drew) :
    rg19.wp Try.prog Q ⟨#[t0, t1, t2, t3, t4, t5, t6, t7, t8, .int .i64 (i : Int), t10, .int .i64 (j : Int), t12, t13, .slice (some ⟨sb, so, none⟩) n c, t15, t16, t17, t18, t19, t20, t21, t22, t23, t24, t25, t26, t27, t28, t29, t30, t31, t32, t33, t34, t35, t36, t37, t38, t39, t40, t41, t42, t43, t44, t45, t46, t47, t48, t49, t50, t51, t52, t53, t54, t55, t56, t57, t58, t59, t60, t61, t62, t63, t64, t65, t66, t67, t68, t69, t70, t71, t72, t73, t74, t75, t76, t77, t78, t79, t80, t81, t82, t83, t84, t85, t86, t87, t88], df⟩ wr := by
  have HP : Hid (∀ c a a' w, Q (.panic c) a w → Q (.panic c) a' w) := hQp
  have HQ : Hid (∀ u47 u48 u49 u50 u51 u52 u53 u54 u55 u56 u57 u58 u59 u60 u61 u62 u63 u64 u65 u66 u67 u68 u69 u70 u71 u72 u73, Q .normal ⟨#[t0, t1, t2, t3, t4, t5, t6, t7, t8, .int .i64 (i : Int), t10, .int .i64 (j : Int), t12, t13, .slice (some ⟨sb, so, none⟩) n c, t15, t16, t17, t18, t19, t20, t21, t22, t23, t24, t25, t26, t27, t28, t29, t30, t31, t32, t33, t34, t35, t36, t37, t38, t39, t40, t41, t42, t43, t44, t45, t46, u47, u48, u49, u50, u51, u52, u53, u54, u55, u56, u57, u58, u59, u60, u61, u62, u63, u64, u65, u66, u67, u68, u69, u70, u71, u72, u73, .bool false, t75, t76, t77, t78, t79, t80, t81, t82, t83, t84, t85, t86, t87, t88], df⟩ wr.drew) := hQ
  clear hQ hQp
  unfold rg19
  refine wp_region_held_drew (S := fun V => V = wr.drew) (by kernel_rfl) rfl (fun hH0 => ?_)
  generalize wr.drew = X at *
  refine tk (i := 0) (v := .int .i64 (i : Int)) rfl (by kernel_rfl) (fun _ _ _ h => HP.out _ _ _ _ h) (by kernel_rfl) ?_ hH0 ?_
  · intro V hS; subst hS; go_simp
  simp only [Act.put, y1, y2, y3, y4, y5, y6, y7]
  refine tk (i := 1) (v := .int .i64 (j : Int)) rfl (by kernel_rfl) (fun _ _ _ h => HP.out _ _ _ _ h) (by kernel_rfl) ?_ hH0 ?_
  · intro V hS; subst hS; go_simp
  simp only [Act.put, y1, y2, y3, y4, y5, y6, y7]
  refine tk (i := 2) (v := .bool true) rfl (by kernel_rfl) (fun _ _ _ h => HP.out _ _ _ _ h) (by kernel_rfl) ?_ hH0 ?_
  · intro V hS; subst hS; go_simp
  simp only [Act.put, y1, y2, y3, y4, y5, y6, y7]
  refine tk (i := 3) (v := .bool true) rfl (by kernel_rfl) (fun _ _ _ h => HP.out _ _ _ _ h) (by kernel_rfl) ?_ hH0 ?_
  · intro V hS; subst hS; go_simp
  simp only [Act.put, y1, y2, y3, y4, y5, y6, y7]
  refine tk (i := 4) (v := .slice (some ⟨sb, so, none⟩) n c) rfl (by kernel_rfl) (fun _ _ _ h => HP.out _ _ _ _ h) (by kernel_rfl) ?_ hH0 ?_
  · intro V hS; subst hS; go_simp
  simp only [Act.put, y1, y2, y3, y4, y5, y6, y7]
  refine tk (i := 5) (v := .int .i64 (i : Int)) rfl (by kernel_rfl) (fun _ _ _ h => HP.out _ _ _ _ h) (by kernel_rfl) ?_ hH0 ?_
  · intro V hS; subst hS; go_simp
  simp only [Act.put, y1, y2, y3, y4, y5, y6, y7]
  refine tk (i := 6) (v := .pointer (some ⟨sb, so + i, none⟩)) rfl (by kernel_rfl) (fun _ _ _ h => HP.out _ _ _ _ h) (by kernel_rfl) ?_ hH0 ?_
  · intro V hS; subst hS; go_simp
  simp only [Act.put, y1, y2, y3, y4, y5, y6, y7]
  refine tk (i := 7) (v := .int .i64 bi) rfl (by kernel_rfl) (fun _ _ _ h => HP.out _ _ _ _ h) (by kernel_rfl) ?_ hH0 ?_
  · intro V hS; subst hS; go_simp
  simp only [Act.put, y1, y2, y3, y4, y5, y6, y7]
  refine tk (i := 8) (v := .bool false) rfl (by kernel_rfl) (fun _ _ _ h => HP.out _ _ _ _ h) (by kernel_rfl) ?_ hH0 ?_
  · intro V hS; subst hS; go_simp
  simp only [Act.put, y1, y2, y3, y4, y5, y6, y7]
  refine tk (i := 9) (v := .bool false) rfl (by kernel_rfl) (fun _ _ _ h => HP.out _ _ _ _ h) (by kernel_rfl) ?_ hH0 ?_
  · intro V hS; subst hS; go_simp
  simp only [Act.put, y1, y2, y3, y4, y5, y6, y7]
  refine tk (i := 10) (v := .bool false) rfl (by kernel_rfl) (fun _ _ _ h => HP.out _ _ _ _ h) (by kernel_rfl) ?_ hH0 ?_
  · intro V hS; subst hS; go_simp
  simp only [Act.put, y1, y2, y3, y4, y5, y6, y7]
  refine tkU (i := 11) rfl (by kernel_rfl) (fun _ _ _ h => HP.out _ _ _ _ h) (by kernel_rfl) hH0 ?_
  simp only [Act.put, y1, y2, y3, y4, y5, y6, y7]
  refine tkU (i := 12) rfl (by kernel_rfl) (fun _ _ _ h => HP.out _ _ _ _ h) (by kernel_rfl) hH0 ?_
  simp only [Act.put, y1, y2, y3, y4, y5, y6, y7]
  refine tkU (i := 13) rfl (by kernel_rfl) (fun _ _ _ h => HP.out _ _ _ _ h) (by kernel_rfl) hH0 ?_
  simp only [Act.put, y1, y2, y3, y4, y5, y6, y7]
  refine tkU (i := 14) rfl (by kernel_rfl) (fun _ _ _ h => HP.out _ _ _ _ h) (by kernel_rfl) hH0 ?_
  simp only [Act.put, y1, y2, y3, y4, y5, y6, y7]
  refine tkU (i := 15) rfl (by kernel_rfl) (fun _ _ _ h => HP.out _ _ _ _ h) (by kernel_rfl) hH0 ?_
  simp only [Act.put, y1, y2, y3, y4, y5, y6, y7]
  refine tkU (i := 16) rfl (by kernel_rfl) (fun _ _ _ h => HP.out _ _ _ _ h) (by kernel_rfl) hH0 ?_
  simp only [Act.put, y1, y2, y3, y4, y5, y6, y7]
  refine tkU (i := 17) rfl (by kernel_rfl) (fun _ _ _ h => HP.out _ _ _ _ h) (by kernel_rfl) hH0 ?_
  simp only [Act.put, y1, y2, y3, y4, y5, y6, y7]
  refine tkU (i := 18) rfl (by kernel_rfl) (fun _ _ _ h => HP.out _ _ _ _ h) (by kernel_rfl) hH0 ?_
  simp only [Act.put, y1, y2, y3, y4, y5, y6, y7]
  refine tkU (i := 19) rfl (by kernel_rfl) (fun _ _ _ h => HP.out _ _ _ _ h) (by kernel_rfl) hH0 ?_
  simp only [Act.put, y1, y2, y3, y4, y5, y6, y7]
  refine tkU (i := 20) rfl (by kernel_rfl) (fun _ _ _ h => HP.out _ _ _ _ h) (by kernel_rfl) hH0 ?_
  simp only [Act.put, y1, y2, y3, y4, y5, y6, y7]
  refine tkU (i := 21) rfl (by kernel_rfl) (fun _ _ _ h => HP.out _ _ _ _ h) (by kernel_rfl) hH0 ?_
  simp only [Act.put, y1, y2, y3, y4, y5, y6, y7]
  refine tkU (i := 22) rfl (by kernel_rfl) (fun _ _ _ h => HP.out _ _ _ _ h) (by kernel_rfl) hH0 ?_
  simp only [Act.put, y1, y2, y3, y4, y5, y6, y7]
  refine tkU (i := 23) rfl (by kernel_rfl) (fun _ _ _ h => HP.out _ _ _ _ h) (by kernel_rfl) hH0 ?_
  simp only [Act.put, y1, y2, y3, y4, y5, y6, y7]
  refine tkU (i := 24) rfl (by kernel_rfl) (fun _ _ _ h => HP.out _ _ _ _ h) (by kernel_rfl) hH0 ?_
  simp only [Act.put, y1, y2, y3, y4, y5, y6, y7]
  refine tkU (i := 25) rfl (by kernel_rfl) (fun _ _ _ h => HP.out _ _ _ _ h) (by kernel_rfl) hH0 ?_
  simp only [Act.put, y1, y2, y3, y4, y5, y6, y7]
  refine tkU (i := 26) rfl (by kernel_rfl) (fun _ _ _ h => HP.out _ _ _ _ h) (by kernel_rfl) hH0 ?_
  simp only [Act.put, y1, y2, y3, y4, y5, y6, y7]
  refine tk (i := 27) (v := .bool false) rfl (by kernel_rfl) (fun _ _ _ h => HP.out _ _ _ _ h) (by kernel_rfl) ?_ hH0 ?_
  · intro V hS; subst hS; go_simp
  simp only [Act.put, y1, y2, y3, y4, y5, y6, y7]
  refine wpAnyH_done (by kernel_rfl) ?_ _
  exact HQ.out _ _ _ _ _ _ _ _ _ _ _ _ _ _ _ _ _ _ _ _ _ _ _ _ _ _ _
set_option maxHeartbeats 4000000 in
theorem rg19_3 {wr : World} {df : List Deferred} {sb so n c i j : Nat} {bi : Int} {bj : Int} {Q : Exit → Act → World → Prop} {t0 t1 t2 t3 t4 t5 t6 t7 t8 t10 t12 t13 t15 t16 t17 t18 t19 t20 t21 t22 t23 t24 t25 t26 t27 t28 t29 t30 t31 t32 t33 t34 t35 t36 t37 t38 t39 t40 t41 t42 t43 t44 t45 t46 t47 t48 t49 t50 t51 t52 t53 t54 t55 t56 t57 t58 t59 t60 t61 t62 t63 t64 t65 t66 t67 t68 t69 t70 t71 t72 t73 t74 t75 t76 t77 t78 t79 t80 t81 t82 t83 t84 t85 t86 t87 t88 : Value} (il : (i : Int) < (n : Int)) (jl : (j : Int) < (n : Int)) (e1 : ((i : Int) != (j : Int)) = true) (p1 : wr.drew.cell? ⟨sb, so + i, none⟩ = some (.int .i64 bi)) (e2 : (bi != 0) = true) (p2 : wr.drew.cell? ⟨sb, so + j, none⟩ = some (.int .i64 bj)) (e3 : (bj == 0) = true)
    (hQp : ∀ c a a' w, Q (.panic c) a w → Q (.panic c) a' w) (hQ : ∀ u47 u48 u49 u50 u51 u52 u53 u54 u55 u56 u57 u58 u59 u60 u61 u62 u63 u64 u65 u66 u67 u68 u69 u70 u71 u72 u73, Q .normal ⟨#[t0, t1, t2, t3, t4, t5, t6, t7, t8, .int .i64 (i : Int), t10, .int .i64 (j : Int), t12, t13, .slice (some ⟨sb, so, none⟩) n c, t15, t16, t17, t18, t19, t20, t21, t22, t23, t24, t25, t26, t27, t28, t29, t30, t31, t32, t33, t34, t35, t36, t37, t38, t39, t40, t41, t42, t43, t44, t45, t46, u47, u48, u49, u50, u51, u52, u53, u54, u55, u56, u57, u58, u59, u60, u61, u62, u63, u64, u65, u66, u67, u68, u69, u70, u71, u72, u73, .bool true, t75, t76, t77, t78, t79, t80, t81, t82, t83, t84, t85, t86, t87, t88], df⟩ wr.drew) :
    rg19.wp Try.prog Q ⟨#[t0, t1, t2, t3, t4, t5, t6, t7, t8, .int .i64 (i : Int), t10, .int .i64 (j : Int), t12, t13, .slice (some ⟨sb, so, none⟩) n c, t15, t16, t17, t18, t19, t20, t21, t22, t23, t24, t25, t26, t27, t28, t29, t30, t31, t32, t33, t34, t35, t36, t37, t38, t39, t40, t41, t42, t43, t44, t45, t46, t47, t48, t49, t50, t51, t52, t53, t54, t55, t56, t57, t58, t59, t60, t61, t62, t63, t64, t65, t66, t67, t68, t69, t70, t71, t72, t73, t74, t75, t76, t77, t78, t79, t80, t81, t82, t83, t84, t85, t86, t87, t88], df⟩ wr := by
  have HP : Hid (∀ c a a' w, Q (.panic c) a w → Q (.panic c) a' w) := hQp
  have HQ : Hid (∀ u47 u48 u49 u50 u51 u52 u53 u54 u55 u56 u57 u58 u59 u60 u61 u62 u63 u64 u65 u66 u67 u68 u69 u70 u71 u72 u73, Q .normal ⟨#[t0, t1, t2, t3, t4, t5, t6, t7, t8, .int .i64 (i : Int), t10, .int .i64 (j : Int), t12, t13, .slice (some ⟨sb, so, none⟩) n c, t15, t16, t17, t18, t19, t20, t21, t22, t23, t24, t25, t26, t27, t28, t29, t30, t31, t32, t33, t34, t35, t36, t37, t38, t39, t40, t41, t42, t43, t44, t45, t46, u47, u48, u49, u50, u51, u52, u53, u54, u55, u56, u57, u58, u59, u60, u61, u62, u63, u64, u65, u66, u67, u68, u69, u70, u71, u72, u73, .bool true, t75, t76, t77, t78, t79, t80, t81, t82, t83, t84, t85, t86, t87, t88], df⟩ wr.drew) := hQ
  clear hQ hQp
  unfold rg19
  refine wp_region_held_drew (S := fun V => V = wr.drew) (by kernel_rfl) rfl (fun hH0 => ?_)
  generalize wr.drew = X at *
  refine tk (i := 0) (v := .int .i64 (i : Int)) rfl (by kernel_rfl) (fun _ _ _ h => HP.out _ _ _ _ h) (by kernel_rfl) ?_ hH0 ?_
  · intro V hS; subst hS; go_simp
  simp only [Act.put, y1, y2, y3, y4, y5, y6, y7]
  refine tk (i := 1) (v := .int .i64 (j : Int)) rfl (by kernel_rfl) (fun _ _ _ h => HP.out _ _ _ _ h) (by kernel_rfl) ?_ hH0 ?_
  · intro V hS; subst hS; go_simp
  simp only [Act.put, y1, y2, y3, y4, y5, y6, y7]
  refine tk (i := 2) (v := .bool true) rfl (by kernel_rfl) (fun _ _ _ h => HP.out _ _ _ _ h) (by kernel_rfl) ?_ hH0 ?_
  · intro V hS; subst hS; go_simp
  simp only [Act.put, y1, y2, y3, y4, y5, y6, y7]
  refine tk (i := 3) (v := .bool true) rfl (by kernel_rfl) (fun _ _ _ h => HP.out _ _ _ _ h) (by kernel_rfl) ?_ hH0 ?_
  · intro V hS; subst hS; go_simp
  simp only [Act.put, y1, y2, y3, y4, y5, y6, y7]
  refine tk (i := 4) (v := .slice (some ⟨sb, so, none⟩) n c) rfl (by kernel_rfl) (fun _ _ _ h => HP.out _ _ _ _ h) (by kernel_rfl) ?_ hH0 ?_
  · intro V hS; subst hS; go_simp
  simp only [Act.put, y1, y2, y3, y4, y5, y6, y7]
  refine tk (i := 5) (v := .int .i64 (i : Int)) rfl (by kernel_rfl) (fun _ _ _ h => HP.out _ _ _ _ h) (by kernel_rfl) ?_ hH0 ?_
  · intro V hS; subst hS; go_simp
  simp only [Act.put, y1, y2, y3, y4, y5, y6, y7]
  refine tk (i := 6) (v := .pointer (some ⟨sb, so + i, none⟩)) rfl (by kernel_rfl) (fun _ _ _ h => HP.out _ _ _ _ h) (by kernel_rfl) ?_ hH0 ?_
  · intro V hS; subst hS; go_simp
  simp only [Act.put, y1, y2, y3, y4, y5, y6, y7]
  refine tk (i := 7) (v := .int .i64 bi) rfl (by kernel_rfl) (fun _ _ _ h => HP.out _ _ _ _ h) (by kernel_rfl) ?_ hH0 ?_
  · intro V hS; subst hS; go_simp
  simp only [Act.put, y1, y2, y3, y4, y5, y6, y7]
  refine tk (i := 8) (v := .bool true) rfl (by kernel_rfl) (fun _ _ _ h => HP.out _ _ _ _ h) (by kernel_rfl) ?_ hH0 ?_
  · intro V hS; subst hS; go_simp
  simp only [Act.put, y1, y2, y3, y4, y5, y6, y7]
  refine tk (i := 9) (v := .bool true) rfl (by kernel_rfl) (fun _ _ _ h => HP.out _ _ _ _ h) (by kernel_rfl) ?_ hH0 ?_
  · intro V hS; subst hS; go_simp
  simp only [Act.put, y1, y2, y3, y4, y5, y6, y7]
  refine tk (i := 10) (v := .bool true) rfl (by kernel_rfl) (fun _ _ _ h => HP.out _ _ _ _ h) (by kernel_rfl) ?_ hH0 ?_
  · intro V hS; subst hS; go_simp
  simp only [Act.put, y1, y2, y3, y4, y5, y6, y7]
  refine tk (i := 11) (v := .slice (some ⟨sb, so, none⟩) n c) rfl (by kernel_rfl) (fun _ _ _ h => HP.out _ _ _ _ h) (by kernel_rfl) ?_ hH0 ?_
  · intro V hS; subst hS; go_simp
  simp only [Act.put, y1, y2, y3, y4, y5, y6, y7]
  refine tk (i := 12) (v := .int .i64 (j : Int)) rfl (by kernel_rfl) (fun _ _ _ h => HP.out _ _ _ _ h) (by kernel_rfl) ?_ hH0 ?_
  · intro V hS; subst hS; go_simp
  simp only [Act.put, y1, y2, y3, y4, y5, y6, y7]
  refine tk (i := 13) (v := .pointer (some ⟨sb, so + j, none⟩)) rfl (by kernel_rfl) (fun _ _ _ h => HP.out _ _ _ _ h) (by kernel_rfl) ?_ hH0 ?_
  · intro V hS; subst hS; go_simp
  simp only [Act.put, y1, y2, y3, y4, y5, y6, y7]
  refine tk (i := 14) (v := .int .i64 bj) rfl (by kernel_rfl) (fun _ _ _ h => HP.out _ _ _ _ h) (by kernel_rfl) ?_ hH0 ?_
  · intro V hS; subst hS; go_simp
  simp only [Act.put, y1, y2, y3, y4, y5, y6, y7]
  refine tk (i := 15) (v := .bool true) rfl (by kernel_rfl) (fun _ _ _ h => HP.out _ _ _ _ h) (by kernel_rfl) ?_ hH0 ?_
  · intro V hS; subst hS; go_simp
  simp only [Act.put, y1, y2, y3, y4, y5, y6, y7]
  refine tk (i := 16) (v := .bool true) rfl (by kernel_rfl) (fun _ _ _ h => HP.out _ _ _ _ h) (by kernel_rfl) ?_ hH0 ?_
  · intro V hS; subst hS; go_simp
  simp only [Act.put, y1, y2, y3, y4, y5, y6, y7]
  refine tkU (i := 17) rfl (by kernel_rfl) (fun _ _ _ h => HP.out _ _ _ _ h) (by kernel_rfl) hH0 ?_
  simp only [Act.put, y1, y2, y3, y4, y5, y6, y7]
  refine tkU (i := 18) rfl (by kernel_rfl) (fun _ _ _ h => HP.out _ _ _ _ h) (by kernel_rfl) hH0 ?_
  simp only [Act.put, y1, y2, y3, y4, y5, y6, y7]
  refine tkU (i := 19) rfl (by kernel_rfl) (fun _ _ _ h => HP.out _ _ _ _ h) (by kernel_rfl) hH0 ?_
  simp only [Act.put, y1, y2, y3, y4, y5, y6, y7]
  refine tkU (i := 20) rfl (by kernel_rfl) (fun _ _ _ h => HP.out _ _ _ _ h) (by kernel_rfl) hH0 ?_
  simp only [Act.put, y1, y2, y3, y4, y5, y6, y7]
  refine tkU (i := 21) rfl (by kernel_rfl) (fun _ _ _ h => HP.out _ _ _ _ h) (by kernel_rfl) hH0 ?_
  simp only [Act.put, y1, y2, y3, y4, y5, y6, y7]
  refine tkU (i := 22) rfl (by kernel_rfl) (fun _ _ _ h => HP.out _ _ _ _ h) (by kernel_rfl) hH0 ?_
  simp only [Act.put, y1, y2, y3, y4, y5, y6, y7]
  refine tkU (i := 23) rfl (by kernel_rfl) (fun _ _ _ h => HP.out _ _ _ _ h) (by kernel_rfl) hH0 ?_
  simp only [Act.put, y1, y2, y3, y4, y5, y6, y7]
  refine tkU (i := 24) rfl (by kernel_rfl) (fun _ _ _ h => HP.out _ _ _ _ h) (by kernel_rfl) hH0 ?_
  simp only [Act.put, y1, y2, y3, y4, y5, y6, y7]
  refine tkU (i := 25) rfl (by kernel_rfl) (fun _ _ _ h => HP.out _ _ _ _ h) (by kernel_rfl) hH0 ?_
  simp only [Act.put, y1, y2, y3, y4, y5, y6, y7]
  refine tk (i := 26) (v := .bool true) rfl (by kernel_rfl) (fun _ _ _ h => HP.out _ _ _ _ h) (by kernel_rfl) ?_ hH0 ?_
  · intro V hS; subst hS; go_simp
  simp only [Act.put, y1, y2, y3, y4, y5, y6, y7]
  refine tk (i := 27) (v := .bool true) rfl (by kernel_rfl) (fun _ _ _ h => HP.out _ _ _ _ h) (by kernel_rfl) ?_ hH0 ?_
  · intro V hS; subst hS; go_simp
  simp only [Act.put, y1, y2, y3, y4, y5, y6, y7]
  refine wpAnyH_done (by kernel_rfl) ?_ _
  exact HQ.out _ _ _ _ _ _ _ _ _ _ _ _ _ _ _ _ _ _ _ _ _ _ _ _ _ _ _
set_option maxHeartbeats 4000000 in
theorem rg19_4 {wr : World} {df : List Deferred} {sb so n c i j : Nat} {bi : Int} {bj : Int} {Q : Exit → Act → World → Prop} {t0 t1 t2 t3 t4 t5 t6 t7 t8 t10 t12 t13 t15 t16 t17 t18 t19 t20 t21 t22 t23 t24 t25 t26 t27 t28 t29 t30 t31 t32 t33 t34 t35 t36 t37 t38 t39 t40 t41 t42 t43 t44 t45 t46 t47 t48 t49 t50 t51 t52 t53 t54 t55 t56 t57 t58 t59 t60 t61 t62 t63 t64 t65 t66 t67 t68 t69 t70 t71 t72 t73 t74 t75 t76 t77 t78 t79 t80 t81 t82 t83 t84 t85 t86 t87 t88 : Value} (il : (i : Int) < (n : Int)) (jl : (j : Int) < (n : Int)) (e1 : ((i : Int) != (j : Int)) = true) (p1 : wr.drew.cell? ⟨sb, so + i, none⟩ = some (.int .i64 bi)) (e2 : (bi != 0) = true) (p2 : wr.drew.cell? ⟨sb, so + j, none⟩ = some (.int .i64 bj)) (e3 : (bj == 0) = false) (e4 : bi < bj)
    (hQp : ∀ c a a' w, Q (.panic c) a w → Q (.panic c) a' w) (hQ : ∀ u47 u48 u49 u50 u51 u52 u53 u54 u55 u56 u57 u58 u59 u60 u61 u62 u63 u64 u65 u66 u67 u68 u69 u70 u71 u72 u73, Q .normal ⟨#[t0, t1, t2, t3, t4, t5, t6, t7, t8, .int .i64 (i : Int), t10, .int .i64 (j : Int), t12, t13, .slice (some ⟨sb, so, none⟩) n c, t15, t16, t17, t18, t19, t20, t21, t22, t23, t24, t25, t26, t27, t28, t29, t30, t31, t32, t33, t34, t35, t36, t37, t38, t39, t40, t41, t42, t43, t44, t45, t46, u47, u48, u49, u50, u51, u52, u53, u54, u55, u56, u57, u58, u59, u60, u61, u62, u63, u64, u65, u66, u67, u68, u69, u70, u71, u72, u73, .bool true, t75, t76, t77, t78, t79, t80, t81, t82, t83, t84, t85, t86, t87, t88], df⟩ wr.drew) :
    rg19.wp Try.prog Q ⟨#[t0, t1, t2, t3, t4, t5, t6, t7, t8, .int .i64 (i : Int), t10, .int .i64 (j : Int), t12, t13, .slice (some ⟨sb, so, none⟩) n c, t15, t16, t17, t18, t19, t20, t21, t22, t23, t24, t25, t26, t27, t28, t29, t30, t31, t32, t33, t34, t35, t36, t37, t38, t39, t40, t41, t42, t43, t44, t45, t46, t47, t48, t49, t50, t51, t52, t53, t54, t55, t56, t57, t58, t59, t60, t61, t62, t63, t64, t65, t66, t67, t68, t69, t70, t71, t72, t73, t74, t75, t76, t77, t78, t79, t80, t81, t82, t83, t84, t85, t86, t87, t88], df⟩ wr := by
  have HP : Hid (∀ c a a' w, Q (.panic c) a w → Q (.panic c) a' w) := hQp
  have HQ : Hid (∀ u47 u48 u49 u50 u51 u52 u53 u54 u55 u56 u57 u58 u59 u60 u61 u62 u63 u64 u65 u66 u67 u68 u69 u70 u71 u72 u73, Q .normal ⟨#[t0, t1, t2, t3, t4, t5, t6, t7, t8, .int .i64 (i : Int), t10, .int .i64 (j : Int), t12, t13, .slice (some ⟨sb, so, none⟩) n c, t15, t16, t17, t18, t19, t20, t21, t22, t23, t24, t25, t26, t27, t28, t29, t30, t31, t32, t33, t34, t35, t36, t37, t38, t39, t40, t41, t42, t43, t44, t45, t46, u47, u48, u49, u50, u51, u52, u53, u54, u55, u56, u57, u58, u59, u60, u61, u62, u63, u64, u65, u66, u67, u68, u69, u70, u71, u72, u73, .bool true, t75, t76, t77, t78, t79, t80, t81, t82, t83, t84, t85, t86, t87, t88], df⟩ wr.drew) := hQ
  clear hQ hQp
  unfold rg19
  refine wp_region_held_drew (S := fun V => V = wr.drew) (by kernel_rfl) rfl (fun hH0 => ?_)
  generalize wr.drew = X at *
  refine tk (i := 0) (v := .int .i64 (i : Int)) rfl (by kernel_rfl) (fun _ _ _ h => HP.out _ _ _ _ h) (by kernel_rfl) ?_ hH0 ?_
  · intro V hS; subst hS; go_simp
  simp only [Act.put, y1, y2, y3, y4, y5, y6, y7]
  refine tk (i := 1) (v := .int .i64 (j : Int)) rfl (by kernel_rfl) (fun _ _ _ h => HP.out _ _ _ _ h) (by kernel_rfl) ?_ hH0 ?_
  · intro V hS; subst hS; go_simp
  simp only [Act.put, y1, y2, y3, y4, y5, y6, y7]
  refine tk (i := 2) (v := .bool true) rfl (by kernel_rfl) (fun _ _ _ h => HP.out _ _ _ _ h) (by kernel_rfl) ?_ hH0 ?_
  · intro V hS; subst hS; go_simp
  simp only [Act.put, y1, y2, y3, y4, y5, y6, y7]
  refine tk (i := 3) (v := .bool true) rfl (by kernel_rfl) (fun _ _ _ h => HP.out _ _ _ _ h) (by kernel_rfl) ?_ hH0 ?_
  · intro V hS; subst hS; go_simp
  simp only [Act.put, y1, y2, y3, y4, y5, y6, y7]
  refine tk (i := 4) (v := .slice (some ⟨sb, so, none⟩) n c) rfl (by kernel_rfl) (fun _ _ _ h => HP.out _ _ _ _ h) (by kernel_rfl) ?_ hH0 ?_
  · intro V hS; subst hS; go_simp
  simp only [Act.put, y1, y2, y3, y4, y5, y6, y7]
  refine tk (i := 5) (v := .int .i64 (i : Int)) rfl (by kernel_rfl) (fun _ _ _ h => HP.out _ _ _ _ h) (by kernel_rfl) ?_ hH0 ?_
  · intro V hS; subst hS; go_simp
  simp only [Act.put, y1, y2, y3, y4, y5, y6, y7]
  refine tk (i := 6) (v := .pointer (some ⟨sb, so + i, none⟩)) rfl (by kernel_rfl) (fun _ _ _ h => HP.out _ _ _ _ h) (by kernel_rfl) ?_ hH0 ?_
  · intro V hS; subst hS; go_simp
  simp only [Act.put, y1, y2, y3, y4, y5, y6, y7]
  refine tk (i := 7) (v := .int .i64 bi) rfl (by kernel_rfl) (fun _ _ _ h => HP.out _ _ _ _ h) (by kernel_rfl) ?_ hH0 ?_
  · intro V hS; subst hS; go_simp
  simp only [Act.put, y1, y2, y3, y4, y5, y6, y7]
  refine tk (i := 8) (v := .bool true) rfl (by kernel_rfl) (fun _ _ _ h => HP.out _ _ _ _ h) (by kernel_rfl) ?_ hH0 ?_
  · intro V hS; subst hS; go_simp
  simp only [Act.put, y1, y2, y3, y4, y5, y6, y7]
  refine tk (i := 9) (v := .bool true) rfl (by kernel_rfl) (fun _ _ _ h => HP.out _ _ _ _ h) (by kernel_rfl) ?_ hH0 ?_
  · intro V hS; subst hS; go_simp
  simp only [Act.put, y1, y2, y3, y4, y5, y6, y7]
  refine tk (i := 10) (v := .bool true) rfl (by kernel_rfl) (fun _ _ _ h => HP.out _ _ _ _ h) (by kernel_rfl) ?_ hH0 ?_
  · intro V hS; subst hS; go_simp
  simp only [Act.put, y1, y2, y3, y4, y5, y6, y7]
  refine tk (i := 11) (v := .slice (some ⟨sb, so, none⟩) n c) rfl (by kernel_rfl) (fun _ _ _ h => HP.out _ _ _ _ h) (by kernel_rfl) ?_ hH0 ?_
  · intro V hS; subst hS; go_simp
  simp only [Act.put, y1, y2, y3, y4, y5, y6, y7]
  refine tk (i := 12) (v := .int .i64 (j : Int)) rfl (by kernel_rfl) (fun _ _ _ h => HP.out _ _ _ _ h) (by kernel_rfl) ?_ hH0 ?_
  · intro V hS; subst hS; go_simp
  simp only [Act.put, y1, y2, y3, y4, y5, y6, y7]
  refine tk (i := 13) (v := .pointer (some ⟨sb, so + j, none⟩)) rfl (by kernel_rfl) (fun _ _ _ h => HP.out _ _ _ _ h) (by kernel_rfl) ?_ hH0 ?_
  · intro V hS; subst hS; go_simp
  simp only [Act.put, y1, y2, y3, y4, y5, y6, y7]
  refine tk (i := 14) (v := .int .i64 bj) rfl (by kernel_rfl) (fun _ _ _ h => HP.out _ _ _ _ h) (by kernel_rfl) ?_ hH0 ?_
  · intro V hS; subst hS; go_simp
  simp only [Act.put, y1, y2, y3, y4, y5, y6, y7]
  refine tk (i := 15) (v := .bool false) rfl (by kernel_rfl) (fun _ _ _ h => HP.out _ _ _ _ h) (by kernel_rfl) ?_ hH0 ?_
  · intro V hS; subst hS; go_simp
  simp only [Act.put, y1, y2, y3, y4, y5, y6, y7]
  refine tk (i := 16) (v := .bool false) rfl (by kernel_rfl) (fun _ _ _ h => HP.out _ _ _ _ h) (by kernel_rfl) ?_ hH0 ?_
  · intro V hS; subst hS; go_simp
  simp only [Act.put, y1, y2, y3, y4, y5, y6, y7]
  refine tk (i := 17) (v := .slice (some ⟨sb, so, none⟩) n c) rfl (by kernel_rfl) (fun _ _ _ h => HP.out _ _ _ _ h) (by kernel_rfl) ?_ hH0 ?_
  · intro V hS; subst hS; go_simp
  simp only [Act.put, y1, y2, y3, y4, y5, y6, y7]
  refine tk (i := 18) (v := .int .i64 (i : Int)) rfl (by kernel_rfl) (fun _ _ _ h => HP.out _ _ _ _ h) (by kernel_rfl) ?_ hH0 ?_
  · intro V hS; subst hS; go_simp
  simp only [Act.put, y1, y2, y3, y4, y5, y6, y7]
  refine tk (i := 19) (v := .pointer (some ⟨sb, so + i, none⟩)) rfl (by kernel_rfl) (fun _ _ _ h => HP.out _ _ _ _ h) (by kernel_rfl) ?_ hH0 ?_
  · intro V hS; subst hS; go_simp
  simp only [Act.put, y1, y2, y3, y4, y5, y6, y7]
  refine tk (i := 20) (v := .int .i64 bi) rfl (by kernel_rfl) (fun _ _ _ h => HP.out _ _ _ _ h) (by kernel_rfl) ?_ hH0 ?_
  · intro V hS; subst hS; go_simp
  simp only [Act.put, y1, y2, y3, y4, y5, y6, y7]
  refine tk (i := 21) (v := .slice (some ⟨sb, so, none⟩) n c) rfl (by kernel_rfl) (fun _ _ _ h => HP.out _ _ _ _ h) (by kernel_rfl) ?_ hH0 ?_
  · intro V hS; subst hS; go_simp
  simp only [Act.put, y1, y2, y3, y4, y5, y6, y7]
  refine tk (i := 22) (v := .int .i64 (j : Int)) rfl (by kernel_rfl) (fun _ _ _ h => HP.out _ _ _ _ h) (by kernel_rfl) ?_ hH0 ?_
  · intro V hS; subst hS; go_simp
  simp only [Act.put, y1, y2, y3, y4, y5, y6, y7]
  refine tk (i := 23) (v := .pointer (some ⟨sb, so + j, none⟩)) rfl (by kernel_rfl) (fun _ _ _ h => HP.out _ _ _ _ h) (by kernel_rfl) ?_ hH0 ?_
  · intro V hS; subst hS; go_simp
  simp only [Act.put, y1, y2, y3, y4, y5, y6, y7]
  refine tk (i := 24) (v := .int .i64 bj) rfl (by kernel_rfl) (fun _ _ _ h => HP.out _ _ _ _ h) (by kernel_rfl) ?_ hH0 ?_
  · intro V hS; subst hS; go_simp
  simp only [Act.put, y1, y2, y3, y4, y5, y6, y7]
  refine tk (i := 25) (v := .bool true) rfl (by kernel_rfl) (fun _ _ _ h => HP.out _ _ _ _ h) (by kernel_rfl) ?_ hH0 ?_
  · intro V hS; subst hS; go_simp
  simp only [Act.put, y1, y2, y3, y4, y5, y6, y7]
  refine tk (i := 26) (v := .bool true) rfl (by kernel_rfl) (fun _ _ _ h => HP.out _ _ _ _ h) (by kernel_rfl) ?_ hH0 ?_
  · intro V hS; subst hS; go_simp
  simp only [Act.put, y1, y2, y3, y4, y5, y6, y7]
  refine tk (i := 27) (v := .bool true) rfl (by kernel_rfl) (fun _ _ _ h => HP.out _ _ _ _ h) (by kernel_rfl) ?_ hH0 ?_
  · intro V hS; subst hS; go_simp
  simp only [Act.put, y1, y2, y3, y4, y5, y6, y7]
  refine wpAnyH_done (by kernel_rfl) ?_ _
  exact HQ.out _ _ _ _ _ _ _ _ _ _ _ _ _ _ _ _ _ _ _ _ _ _ _ _ _ _ _
set_option maxHeartbeats 4000000 in
theorem rg19_5 {wr : World} {df : List Deferred} {sb so n c i j : Nat} {bi : Int} {bj : Int} {Q : Exit → Act → World → Prop} {t0 t1 t2 t3 t4 t5 t6 t7 t8 t10 t12 t13 t15 t16 t17 t18 t19 t20 t21 t22 t23 t24 t25 t26 t27 t28 t29 t30 t31 t32 t33 t34 t35 t36 t37 t38 t39 t40 t41 t42 t43 t44 t45 t46 t47 t48 t49 t50 t51 t52 t53 t54 t55 t56 t57 t58 t59 t60 t61 t62 t63 t64 t65 t66 t67 t68 t69 t70 t71 t72 t73 t74 t75 t76 t77 t78 t79 t80 t81 t82 t83 t84 t85 t86 t87 t88 : Value} (il : (i : Int) < (n : Int)) (jl : (j : Int) < (n : Int)) (e1 : ((i : Int) != (j : Int)) = true) (p1 : wr.drew.cell? ⟨sb, so + i, none⟩ = some (.int .i64 bi)) (e2 : (bi != 0) = true) (p2 : wr.drew.cell? ⟨sb, so + j, none⟩ = some (.int .i64 bj)) (e3 : (bj == 0) = false) (e4 : ¬ bi < bj)
    (hQp : ∀ c a a' w, Q (.panic c) a w → Q (.panic c) a' w) (hQ : ∀ u47 u48 u49 u50 u51 u52 u53 u54 u55 u56 u57 u58 u59 u60 u61 u62 u63 u64 u65 u66 u67 u68 u69 u70 u71 u72 u73, Q .normal ⟨#[t0, t1, t2, t3, t4, t5, t6, t7, t8, .int .i64 (i : Int), t10, .int .i64 (j : Int), t12, t13, .slice (some ⟨sb, so, none⟩) n c, t15, t16, t17, t18, t19, t20, t21, t22, t23, t24, t25, t26, t27, t28, t29, t30, t31, t32, t33, t34, t35, t36, t37, t38, t39, t40, t41, t42, t43, t44, t45, t46, u47, u48, u49, u50, u51, u52, u53, u54, u55, u56, u57, u58, u59, u60, u61, u62, u63, u64, u65, u66, u67, u68, u69, u70, u71, u72, u73, .bool false, t75, t76, t77, t78, t79, t80, t81, t82, t83, t84, t85, t86, t87, t88], df⟩ wr.drew) :
    rg19.wp Try.prog Q ⟨#[t0, t1, t2, t3, t4, t5, t6, t7, t8, .int .i64 (i : Int), t10, .int .i64 (j : Int), t12, t13, .slice (some ⟨sb, so, none⟩) n c, t15, t16, t17, t18, t19, t20, t21, t22, t23, t24, t25, t26, t27, t28, t29, t30, t31, t32, t33, t34, t35, t36, t37, t38, t39, t40, t41, t42, t43, t44, t45, t46, t47, t48, t49, t50, t51, t52, t53, t54, t55, t56, t57, t58, t59, t60, t61, t62, t63, t64, t65, t66, t67, t68, t69, t70, t71, t72, t73, t74, t75, t76, t77, t78, t79, t80, t81, t82, t83, t84, t85, t86, t87, t88], df⟩ wr := by
  have HP : Hid (∀ c a a' w, Q (.panic c) a w → Q (.panic c) a' w) := hQp
  have HQ : Hid (∀ u47 u48 u49 u50 u51 u52 u53 u54 u55 u56 u57 u58 u59 u60 u61 u62 u63 u64 u65 u66 u67 u68 u69 u70 u71 u72 u73, Q .normal ⟨#[t0, t1, t2, t3, t4, t5, t6, t7, t8, .int .i64 (i : Int), t10, .int .i64 (j : Int), t12, t13, .slice (some ⟨sb, so, none⟩) n c, t15, t16, t17, t18, t19, t20, t21, t22, t23, t24, t25, t26, t27, t28, t29, t30, t31, t32, t33, t34, t35, t36, t37, t38, t39, t40, t41, t42, t43, t44, t45, t46, u47, u48, u49, u50, u51, u52, u53, u54, u55, u56, u57, u58, u59, u60, u61, u62, u63, u64, u65, u66, u67, u68, u69, u70, u71, u72, u73, .bool false, t75, t76, t77, t78, t79, t80, t81, t82, t83, t84, t85, t86, t87, t88], df⟩ wr.drew) := hQ
  clear hQ hQp
  unfold rg19
  refine wp_region_held_drew (S := fun V => V = wr.drew) (by kernel_rfl) rfl (fun hH0 => ?_)
  generalize wr.drew = X at *
  refine tk (i := 0) (v := .int .i64 (i : Int)) rfl (by kernel_rfl) (fun _ _ _ h => HP.out _ _ _ _ h) (by kernel_rfl) ?_ hH0 ?_
  · intro V hS; subst hS; go_simp
  simp only [Act.put, y1, y2, y3, y4, y5, y6, y7]
  refine tk (i := 1) (v := .int .i64 (j : Int)) rfl (by kernel_rfl) (fun _ _ _ h => HP.out _ _ _ _ h) (by kernel_rfl) ?_ hH0 ?_
  · intro V hS; subst hS; go_simp
  simp only [Act.put, y1, y2, y3, y4, y5, y6, y7]
  refine tk (i := 2) (v := .bool true) rfl (by kernel_rfl) (fun _ _ _ h => HP.out _ _ _ _ h) (by kernel_rfl) ?_ hH0 ?_
  · intro V hS; subst hS; go_simp
  simp only [Act.put, y1, y2, y3, y4, y5, y6, y7]
  refine tk (i := 3) (v := .bool true) rfl (by kernel_rfl) (fun _ _ _ h => HP.out _ _ _ _ h) (by kernel_rfl) ?_ hH0 ?_
  · intro V hS; subst hS; go_simp
  simp only [Act.put, y1, y2, y3, y4, y5, y6, y7]
  refine tk (i := 4) (v := .slice (some ⟨sb, so, none⟩) n c) rfl (by kernel_rfl) (fun _ _ _ h => HP.out _ _ _ _ h) (by kernel_rfl) ?_ hH0 ?_
  · intro V hS; subst hS; go_simp
  simp only [Act.put, y1, y2, y3, y4, y5, y6, y7]
  refine tk (i := 5) (v := .int .i64 (i : Int)) rfl (by kernel_rfl) (fun _ _ _ h => HP.out _ _ _ _ h) (by kernel_rfl) ?_ hH0 ?_
  · intro V hS; subst hS; go_simp
  simp only [Act.put, y1, y2, y3, y4, y5, y6, y7]
  refine tk (i := 6) (v := .pointer (some ⟨sb, so + i, none⟩)) rfl (by kernel_rfl) (fun _ _ _ h => HP.out _ _ _ _ h) (by kernel_rfl) ?_ hH0 ?_
  · intro V hS; subst hS; go_simp
  simp only [Act.put, y1, y2, y3, y4, y5, y6, y7]
  refine tk (i := 7) (v := .int .i64 bi) rfl (by kernel_rfl) (fun _ _ _ h => HP.out _ _ _ _ h) (by kernel_rfl) ?_ hH0 ?_
  · intro V hS; subst hS; go_simp
  simp only [Act.put, y1, y2, y3, y4, y5, y6, y7]
  refine tk (i := 8) (v := .bool true) rfl (by kernel_rfl) (fun _ _ _ h => HP.out _ _ _ _ h) (by kernel_rfl) ?_ hH0 ?_
  · intro V hS; subst hS; go_simp
  simp only [Act.put, y1, y2, y3, y4, y5, y6, y7]
  refine tk (i := 9) (v := .bool true) rfl (by kernel_rfl) (fun _ _ _ h => HP.out _ _ _ _ h) (by kernel_rfl) ?_ hH0 ?_
  · intro V hS; subst hS; go_simp
  simp only [Act.put, y1, y2, y3, y4, y5, y6, y7]
  refine tk (i := 10) (v := .bool true) rfl (by kernel_rfl) (fun _ _ _ h => HP.out _ _ _ _ h) (by kernel_rfl) ?_ hH0 ?_
  · intro V hS; subst hS; go_simp
  simp only [Act.put, y1, y2, y3, y4, y5, y6, y7]
  refine tk (i := 11) (v := .slice (some ⟨sb, so, none⟩) n c) rfl (by kernel_rfl) (fun _ _ _ h => HP.out _ _ _ _ h) (by kernel_rfl) ?_ hH0 ?_
  · intro V hS; subst hS; go_simp
  simp only [Act.put, y1, y2, y3, y4, y5, y6, y7]
  refine tk (i := 12) (v := .int .i64 (j : Int)) rfl (by kernel_rfl) (fun _ _ _ h => HP.out _ _ _ _ h) (by kernel_rfl) ?_ hH0 ?_
  · intro V hS; subst hS; go_simp
  simp only [Act.put, y1, y2, y3, y4, y5, y6, y7]
  refine tk (i := 13) (v := .pointer (some ⟨sb, so + j, none⟩)) rfl (by kernel_rfl) (fun _ _ _ h => HP.out _ _ _ _ h) (by kernel_rfl) ?_ hH0 ?_
  · intro V hS; subst hS; go_simp
  simp only [Act.put, y1, y2, y3, y4, y5, y6, y7]
  refine tk (i := 14) (v := .int .i64 bj) rfl (by kernel_rfl) (fun _ _ _ h => HP.out _ _ _ _ h) (by kernel_rfl) ?_ hH0 ?_
  · intro V hS; subst hS; go_simp
  simp only [Act.put, y1, y2, y3, y4, y5, y6, y7]
  refine tk (i := 15) (v := .bool false) rfl (by kernel_rfl) (fun _ _ _ h => HP.out _ _ _ _ h) (by kernel_rfl) ?_ hH0 ?_
  · intro V hS; subst hS; go_simp
  simp only [Act.put, y1, y2, y3, y4, y5, y6, y7]
  refine tk (i := 16) (v := .bool false) rfl (by kernel_rfl) (fun _ _ _ h => HP.out _ _ _ _ h) (by kernel_rfl) ?_ hH0 ?_
  · intro V hS; subst hS; go_simp
  simp only [Act.put, y1, y2, y3, y4, y5, y6, y7]
  refine tk (i := 17) (v := .slice (some ⟨sb, so, none⟩) n c) rfl (by kernel_rfl) (fun _ _ _ h => HP.out _ _ _ _ h) (by kernel_rfl) ?_ hH0 ?_
  · intro V hS; subst hS; go_simp
  simp only [Act.put, y1, y2, y3, y4, y5, y6, y7]
  refine tk (i := 18) (v := .int .i64 (i : Int)) rfl (by kernel_rfl) (fun _ _ _ h => HP.out _ _ _ _ h) (by kernel_rfl) ?_ hH0 ?_
  · intro V hS; subst hS; go_simp
  simp only [Act.put, y1, y2, y3, y4, y5, y6, y7]
  refine tk (i := 19) (v := .pointer (some ⟨sb, so + i, none⟩)) rfl (by kernel_rfl) (fun _ _ _ h => HP.out _ _ _ _ h) (by kernel_rfl) ?_ hH0 ?_
  · intro V hS; subst hS; go_simp
  simp only [Act.put, y1, y2, y3, y4, y5, y6, y7]
  refine tk (i := 20) (v := .int .i64 bi) rfl (by kernel_rfl) (fun _ _ _ h => HP.out _ _ _ _ h) (by kernel_rfl) ?_ hH0 ?_
  · intro V hS; subst hS; go_simp
  simp only [Act.put, y1, y2, y3, y4, y5, y6, y7]
  refine tk (i := 21) (v := .slice (some ⟨sb, so, none⟩) n c) rfl (by kernel_rfl) (fun _ _ _ h => HP.out _ _ _ _ h) (by kernel_rfl) ?_ hH0 ?_
  · intro V hS; subst hS; go_simp
  simp only [Act.put, y1, y2, y3, y4, y5, y6, y7]
  refine tk (i := 22) (v := .int .i64 (j : Int)) rfl (by kernel_rfl) (fun _ _ _ h => HP.out _ _ _ _ h) (by kernel_rfl) ?_ hH0 ?_
  · intro V hS; subst hS; go_simp
  simp only [Act.put, y1, y2, y3, y4, y5, y6, y7]
  refine tk (i := 23) (v := .pointer (some ⟨sb, so + j, none⟩)) rfl (by kernel_rfl) (fun _ _ _ h => HP.out _ _ _ _ h) (by kernel_rfl) ?_ hH0 ?_
  · intro V hS; subst hS; go_simp
  simp only [Act.put, y1, y2, y3, y4, y5, y6, y7]
  refine tk (i := 24) (v := .int .i64 bj) rfl (by kernel_rfl) (fun _ _ _ h => HP.out _ _ _ _ h) (by kernel_rfl) ?_ hH0 ?_
  · intro V hS; subst hS; go_simp
  simp only [Act.put, y1, y2, y3, y4, y5, y6, y7]
  refine tk (i := 25) (v := .bool false) rfl (by kernel_rfl) (fun _ _ _ h => HP.out _ _ _ _ h) (by kernel_rfl) ?_ hH0 ?_
  · intro V hS; subst hS; go_simp
  simp only [Act.put, y1, y2, y3, y4, y5, y6, y7]
  refine tk (i := 26) (v := .bool false) rfl (by kernel_rfl) (fun _ _ _ h => HP.out _ _ _ _ h) (by kernel_rfl) ?_ hH0 ?_
  · intro V hS; subst hS; go_simp
  simp only [Act.put, y1, y2, y3, y4, y5, y6, y7]
  refine tk (i := 27) (v := .bool false) rfl (by kernel_rfl) (fun _ _ _ h => HP.out _ _ _ _ h) (by kernel_rfl) ?_ hH0 ?_
  · intro V hS; subst hS; go_simp
  simp only [Act.put, y1, y2, y3, y4, y5, y6, y7]
  refine wpAnyH_done (by kernel_rfl) ?_ _
  exact HQ.out _ _ _ _ _ _ _ _ _ _ _ _ _ _ _ _ _ _ _ _ _ _ _ _ _ _ _
end Go.Proofs.Ytcdmndcpjememaa
