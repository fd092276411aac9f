/- A region of the document's Paths. -/
import Derived.Test.YtcdmndcpjememaaPh
import Derived.Deep.RegionHeld
import Derived.Deep.RegionHeld3
set_option linter.unusedSimpArgs false
set_option linter.unusedVariables false
set_option maxRecDepth 100000
namespace Go.Proofs.Ytcdmndcpjememaa
open Go.RowKit Go.Deep Go.PlainAid

theorem y1 {α : Type} {xs : List α} {i : Nat} (h : i < xs.toArray.size) : xs.toArray[i] = xs[i]'(by simpa using h) := List.getElem_toArray h
theorem y2 {α : Type} (a : α) (l : List α) (i : Nat) (h : i + 1 < (a :: l).length) : (a :: l)[i + 1] = l[i]'(by simpa using h) := List.getElem_cons_succ a l i h
theorem y3 {α : Type} (a : α) (l : List α) (h : 0 < (a :: l).length) : (a :: l)[0] = a := List.getElem_cons_zero a l h
theorem y4 {α : Type} {l : List α} {i : Nat} {a : α} : l.toArray.setIfInBounds i a = (l.set i a).toArray := List.setIfInBounds_toArray _ _ _
theorem y5 {α : Type} {x : α} {l : List α} {a : α} : (x :: l).set 0 a = a :: l := List.set_cons_zero
theorem y6 {α : Type} {x : α} {l : List α} {n : Nat} {a : α} : (x :: l).set (n + 1) a = x :: l.set n a := List.set_cons_succ
theorem y7 {α : Type} {xs : Array α} : xs.toList.toArray = xs := Array.toArray_toList
theorem tk {P : Program} {md : Region.Mode} {ops : Array Oper} {Q : Exit → Act → World → Prop} {S : World → Prop} {i : Nat} {oi : Oper} {v : Value} {fuel : Nat} {listed : Array Bool} {a : Act} {w : World} (hi : ops[i]? = some oi)
    (hs : (Region.noSelect ops && (Region.free md ops listed i && (Region.ready md ops listed).contains i)) = true)
    (hQ : ∀ c a w, Q (.panic c) (a.put oi.dst v) w → Q (.panic c) a w) (hw : Region.wanted oi (yielded ops a.tmps) = true) (hy : ∀ w, S w → (execOp a.eval oi).run P w = .ok (.value v) w) (hS : S w)
    (h : wpAnyH P md ops Q S fuel (listed.setIfInBounds i true) (a.put oi.dst v) w) : wpAnyH P md ops Q S (fuel + 1) listed a w := by
  simp only [Bool.and_eq_true] at hs
  exact wpAnyH_take hi hs.1 hs.2.1 hs.2.2 hQ (Or.inl ⟨hw, hy⟩) hS h
theorem tkU {P : Program} {md : Region.Mode} {ops : Array Oper} {Q : Exit → Act → World → Prop} {S : World → Prop} {i : Nat} {oi : Oper} {fuel : Nat} {listed : Array Bool} {a : Act} {w : World} (hi : ops[i]? = some oi)
    (hs : (Region.noSelect ops && (Region.free md ops listed i && (Region.ready md ops listed).contains i)) = true)
    (hQ : ∀ c a w, Q (.panic c) (a.put oi.dst undef) w → Q (.panic c) a w) (hw : Region.wanted oi (yielded ops a.tmps) = false) (hS : S w)
    (h : wpAnyH P md ops Q S fuel (listed.setIfInBounds i true) (a.put oi.dst undef) w) : wpAnyH P md ops Q S (fuel + 1) listed a w := by
  simp only [Bool.and_eq_true] at hs
  exact wpAnyH_take hi hs.1 hs.2.1 hs.2.2 hQ (Or.inr ⟨hw, rfl⟩) hS h
def rg23 : Code := Go.Code.region 23 #[ { dst := some 49, op := Go.Op.move (Go.Operand.tmp 9), type := 3, pos := "ref.go:171", after := #[], guard := none }, { dst := some 50, op := Go.Op.move (Go.Operand.tmp 10), type := 3, pos := "ref.go:171", after := #[], guard := none }, { dst := some 51, op := Go.Op.binOp Go.BinOp.eql 3 (Go.Operand.tmp 49) (Go.Operand.tmp 50) 3, type := 4, pos := "ref.go:171", after := #[{ on := 0, ground := Go.Ground.data }, { on := 1, ground := Go.Ground.data }], guard := none }, { dst := some 52, op := Go.Op.move (Go.Operand.tmp 51), type := 4, pos := "ref.go:171", after := #[{ on := 2, ground := Go.Ground.data }], guard := none }, { dst := some 53, op := Go.Op.move (Go.Operand.tmp 0), type := 25, pos := "ref.go:171", after := #[{ on := 3, ground := Go.Ground.guard }], guard := some (3, false) }, { dst := some 54, op := Go.Op.move (Go.Operand.tmp 11), type := 3, pos := "ref.go:171", after := #[{ on := 3, ground := Go.Ground.guard }], guard := some (3, false) }, { dst := some 55, op := Go.Op.indexAddr 25 (Go.Operand.tmp 53) (Go.Operand.tmp 54), type := 0, pos := "ref.go:171", after := #[{ on := 4, ground := Go.Ground.data }, { on := 5, ground := Go.Ground.data }, { on := 3, ground := Go.Ground.guard }], guard := some (3, false) }, { dst := some 56, op := Go.Op.load 31 (Go.Operand.tmp 55), type := 31, pos := "ref.go:171", after := #[{ on := 6, ground := Go.Ground.data }, { on := 3, ground := Go.Ground.guard }], guard := some (3, false) }, { dst := some 57, op := Go.Op.move (Go.Operand.tmp 10), type := 3, pos := "ref.go:171", after := #[{ on := 3, ground := Go.Ground.guard }], guard := some (3, false) }, { dst := some 58, op := Go.Op.indexAddr 31 (Go.Operand.tmp 56) (Go.Operand.tmp 57), type := 0, pos := "ref.go:171", after := #[{ on := 7, ground := Go.Ground.data }, { on := 8, ground := Go.Ground.data }, { on := 3, ground := Go.Ground.guard }], guard := some (3, false) }, { dst := some 59, op := Go.Op.load 3 (Go.Operand.tmp 58), type := 3, pos := "ref.go:171", after := #[{ on := 9, ground := Go.Ground.data }, { on := 3, ground := Go.Ground.guard }], guard := some (3, false) }, { dst := some 60, op := Go.Op.move (Go.Operand.tmp 0), type := 25, pos := "ref.go:171", after := #[{ on := 3, ground := Go.Ground.guard }], guard := some (3, false) }, { dst := some 61, op := Go.Op.move (Go.Operand.tmp 10), type := 3, pos := "ref.go:171", after := #[{ on := 3, ground := Go.Ground.guard }], guard := some (3, false) }, { dst := some 62, op := Go.Op.indexAddr 25 (Go.Operand.tmp 60) (Go.Operand.tmp 61), type := 0, pos := "ref.go:171", after := #[{ on := 11, ground := Go.Ground.data }, { on := 12, ground := Go.Ground.data }, { on := 3, ground := Go.Ground.guard }], guard := some (3, false) }, { dst := some 63, op := Go.Op.load 31 (Go.Operand.tmp 62), type := 31, pos := "ref.go:171", after := #[{ on := 13, ground := Go.Ground.data }, { on := 3, ground := Go.Ground.guard }], guard := some (3, false) }, { dst := some 64, op := Go.Op.move (Go.Operand.tmp 11), type := 3, pos := "ref.go:171", after := #[{ on := 3, ground := Go.Ground.guard }], guard := some (3, false) }, { dst := some 65, op := Go.Op.indexAddr 31 (Go.Operand.tmp 63) (Go.Operand.tmp 64), type := 0, pos := "ref.go:171", after := #[{ on := 14, ground := Go.Ground.data }, { on := 15, ground := Go.Ground.data }, { on := 3, ground := Go.Ground.guard }], guard := some (3, false) }, { dst := some 66, op := Go.Op.load 3 (Go.Operand.tmp 65), type := 3, pos := "ref.go:171", after := #[{ on := 16, ground := Go.Ground.data }, { on := 3, ground := Go.Ground.guard }], guard := some (3, false) }, { dst := some 67, op := Go.Op.binOp Go.BinOp.leq 3 (Go.Operand.tmp 59) (Go.Operand.tmp 66) 3, type := 4, pos := "ref.go:171", after := #[{ on := 10, ground := Go.Ground.data }, { on := 17, ground := Go.Ground.data }, { on := 3, ground := Go.Ground.guard }], guard := some (3, false) }, { dst := some 68, op := Go.Op.pick (Go.Operand.tmp 52) (Go.Operand.const (Go.Value.bool true)) (Go.Operand.tmp 67), type := 4, pos := "ref.go:171", after := #[{ on := 3, ground := Go.Ground.data }, { on := 18, ground := Go.Ground.data }], guard := none }, { dst := some 69, op := Go.Op.move (Go.Operand.tmp 68), type := 4, pos := "ref.go:171", after := #[{ on := 19, ground := Go.Ground.data }, { on := 3, ground := Go.Ground.chain }], guard := none }, { dst := some 70, op := Go.Op.move (Go.Operand.tmp 11), type := 3, pos := "ref.go:171", after := #[{ on := 20, ground := Go.Ground.guard }], guard := some (20, false) }, { dst := some 71, op := Go.Op.move (Go.Operand.tmp 9), type := 3, pos := "ref.go:171", after := #[{ on := 20, ground := Go.Ground.guard }], guard := some (20, false) }, { dst := some 72, op := Go.Op.binOp Go.BinOp.neq 3 (Go.Operand.tmp 70) (Go.Operand.tmp 71) 3, type := 4, pos := "ref.go:171", after := #[{ on := 21, ground := Go.Ground.data }, { on := 22, ground := Go.Ground.data }, { on := 20, ground := Go.Ground.guard }], guard := some (20, false) }, { dst := some 73, op := Go.Op.move (Go.Operand.tmp 72), type := 4, pos := "ref.go:171", after := #[{ on := 23, ground := Go.Ground.data }, { on := 20, ground := Go.Ground.chain }, { on := 20, ground := Go.Ground.guard }], guard := some (20, false) }, { dst := some 74, op := Go.Op.move (Go.Operand.tmp 6), type := 25, pos := "ref.go:171", after := #[{ on := 24, ground := Go.Ground.guard }], guard := some (24, true) }, { dst := some 75, op := Go.Op.move (Go.Operand.tmp 9), type := 3, pos := "ref.go:171", after := #[{ on := 24, ground := Go.Ground.guard }], guard := some (24, true) }, { dst := some 76, op := Go.Op.indexAddr 25 (Go.Operand.tmp 74) (Go.Operand.tmp 75), type := 0, pos := "ref.go:171", after := #[{ on := 25, ground := Go.Ground.data }, { on := 26, ground := Go.Ground.data }, { on := 24, ground := Go.Ground.guard }], guard := some (24, true) }, { dst := some 77, op := Go.Op.load 31 (Go.Operand.tmp 76), type := 31, pos := "ref.go:171", after := #[{ on := 27, ground := Go.Ground.data }, { on := 24, ground := Go.Ground.guard }], guard := some (24, true) }, { dst := some 78, op := Go.Op.move (Go.Operand.tmp 11), type := 3, pos := "ref.go:171", after := #[{ on := 24, ground := Go.Ground.guard }], guard := some (24, true) }, { dst := some 79, op := Go.Op.indexAddr 31 (Go.Operand.tmp 77) (Go.Operand.tmp 78), type := 0, pos := "ref.go:171", after := #[{ on := 28, ground := Go.Ground.data }, { on := 29, ground := Go.Ground.data }, { on := 24, ground := Go.Ground.guard }], guard := some (24, true) }, { dst := some 80, op := Go.Op.load 3 (Go.Operand.tmp 79), type := 3, pos := "ref.go:171", after := #[{ on := 30, ground := Go.Ground.data }, { on := 24, ground := Go.Ground.guard }], guard := some (24, true) }, { dst := some 81, op := Go.Op.binOp Go.BinOp.eql 3 (Go.Operand.tmp 80) (Go.Operand.const (Go.Value.int Go.IntKind.i64 0)) 3, type := 4, pos := "ref.go:171", after := #[{ on := 31, ground := Go.Ground.data }, { on := 24, ground := Go.Ground.guard }], guard := some (24, true) }, { dst := some 82, op := Go.Op.pick (Go.Operand.tmp 73) (Go.Operand.tmp 81) (Go.Operand.const (Go.Value.bool false)), type := 4, pos := "ref.go:171", after := #[{ on := 24, ground := Go.Ground.data }, { on := 32, ground := Go.Ground.data }, { on := 20, ground := Go.Ground.guard }], guard := some (20, false) }, { dst := some 83, op := Go.Op.pick (Go.Operand.tmp 69) (Go.Operand.const (Go.Value.bool true)) (Go.Operand.tmp 82), type := 4, pos := "ref.go:171", after := #[{ on := 20, ground := Go.Ground.data }, { on := 33, ground := Go.Ground.data }], guard := none }] true
set_option maxHeartbeats 4000000 in
theorem rg23_1 {wr : World} {df : List Deferred} {sb so n c b i j k : Nat} {Q : Exit → Act → World → Prop} {t1 t2 t3 t4 t7 t8 t12 t13 t14 t15 t16 t17 t18 t19 t20 t21 t22 t23 t24 t25 t26 t27 t28 t29 t30 t31 t32 t33 t34 t35 t36 t37 t38 t39 t40 t41 t42 t43 t44 t45 t46 t47 t48 t49 t50 t51 t52 t53 t54 t55 t56 t57 t58 t59 t60 t61 t62 t63 t64 t65 t66 t67 t68 t69 t70 t71 t72 t73 t74 t75 t76 t77 t78 t79 t80 t81 t82 t83 t84 t85 t86 t87 t88 t89 t90 t91 t92 t93 t94 t95 t96 t97 t98 t99 t100 t101 t102 t103 t104 t105 t106 t107 t108 t109 t110 t111 t112 t113 t114 t115 t116 t117 t118 t119 t120 t121 t122 t123 t124 t125 t126 t127 t128 : Value} (il : (i : Int) < (n : Int)) (jl : (j : Int) < (n : Int)) (kl : (k : Int) < (n : Int)) (e1 : ((i : Int) == (j : Int)) = true)
    (hQp : ∀ c a a' w, Q (.panic c) a w → Q (.panic c) a' w) (hQ : ∀ u49 u50 u51 u52 u53 u54 u55 u56 u57 u58 u59 u60 u61 u62 u63 u64 u65 u66 u67 u68 u69 u70 u71 u72 u73 u74 u75 u76 u77 u78 u79 u80 u81 u82, Q .normal ⟨#[.slice (some ⟨sb, so, none⟩) n c, t1, t2, t3, t4, .int .i64 (n : Int), .slice (some ⟨b, 0, none⟩) n n, t7, t8, .int .i64 (i : Int), .int .i64 (j : Int), .int .i64 (k : Int), t12, t13, t14, t15, t16, t17, t18, t19, t20, t21, t22, t23, t24, t25, t26, t27, t28, t29, t30, t31, t32, t33, t34, t35, t36, t37, t38, t39, t40, t41, t42, t43, t44, t45, t46, t47, t48, u49, u50, u51, u52, u53, u54, u55, u56, u57, u58, u59, u60, u61, u62, u63, u64, u65, u66, u67, u68, u69, u70, u71, u72, u73, u74, u75, u76, u77, u78, u79, u80, u81, u82, .bool true, t84, t85, t86, t87, t88, t89, t90, t91, t92, t93, t94, t95, t96, t97, t98, t99, t100, t101, t102, t103, t104, t105, t106, t107, t108, t109, t110, t111, t112, t113, t114, t115, t116, t117, t118, t119, t120, t121, t122, t123, t124, t125, t126, t127, t128], df⟩ wr.drew) :
    rg23.wp Try.prog Q ⟨#[.slice (some ⟨sb, so, none⟩) n c, t1, t2, t3, t4, .int .i64 (n : Int), .slice (some ⟨b, 0, none⟩) n n, t7, t8, .int .i64 (i : Int), .int .i64 (j : Int), .int .i64 (k : Int), t12, t13, t14, t15, t16, t17, t18, t19, t20, t21, t22, t23, t24, t25, t26, t27, t28, t29, t30, t31, t32, t33, t34, t35, t36, t37, t38, t39, t40, t41, t42, t43, t44, t45, t46, t47, t48, t49, t50, t51, t52, t53, t54, t55, t56, t57, t58, t59, t60, t61, t62, t63, t64, t65, t66, t67, t68, t69, t70, t71, t72, t73, t74, t75, t76, t77, t78, t79, t80, t81, t82, t83, t84, t85, t86, t87, t88, t89, t90, t91, t92, t93, t94, t95, t96, t97, t98, t99, t100, t101, t102, t103, t104, t105, t106, t107, t108, t109, t110, t111, t112, t113, t114, t115, t116, t117, t118, t119, t120, t121, t122, t123, t124, t125, t126, t127, t128], df⟩ wr := by
  have HP : Hid (∀ c a a' w, Q (.panic c) a w → Q (.panic c) a' w) := hQp
  have HQ : Hid (∀ u49 u50 u51 u52 u53 u54 u55 u56 u57 u58 u59 u60 u61 u62 u63 u64 u65 u66 u67 u68 u69 u70 u71 u72 u73 u74 u75 u76 u77 u78 u79 u80 u81 u82, Q .normal ⟨#[.slice (some ⟨sb, so, none⟩) n c, t1, t2, t3, t4, .int .i64 (n : Int), .slice (some ⟨b, 0, none⟩) n n, t7, t8, .int .i64 (i : Int), .int .i64 (j : Int), .int .i64 (k : Int), t12, t13, t14, t15, t16, t17, t18, t19, t20, t21, t22, t23, t24, t25, t26, t27, t28, t29, t30, t31, t32, t33, t34, t35, t36, t37, t38, t39, t40, t41, t42, t43, t44, t45, t46, t47, t48, u49, u50, u51, u52, u53, u54, u55, u56, u57, u58, u59, u60, u61, u62, u63, u64, u65, u66, u67, u68, u69, u70, u71, u72, u73, u74, u75, u76, u77, u78, u79, u80, u81, u82, .bool true, t84, t85, t86, t87, t88, t89, t90, t91, t92, t93, t94, t95, t96, t97, t98, t99, t100, t101, t102, t103, t104, t105, t106, t107, t108, t109, t110, t111, t112, t113, t114, t115, t116, t117, t118, t119, t120, t121, t122, t123, t124, t125, t126, t127, t128], df⟩ wr.drew) := hQ
  clear hQ hQp
  unfold rg23
  refine wp_region_held_drew (S := fun V => V = wr.drew) (by kernel_rfl) rfl (fun hH0 => ?_)
  generalize wr.drew = X at *
  refine tk (i := 0) (v := .int .i64 (i : Int)) rfl (by kernel_rfl) (fun _ _ _ h => HP.out _ _ _ _ h) (by kernel_rfl) ?_ hH0 ?_
  · intro V hS; subst hS; go_simp
  simp only [Act.put, y1, y2, y3, y4, y5, y6, y7]
  refine tk (i := 1) (v := .int .i64 (j : Int)) rfl (by kernel_rfl) (fun _ _ _ h => HP.out _ _ _ _ h) (by kernel_rfl) ?_ hH0 ?_
  · intro V hS; subst hS; go_simp
  simp only [Act.put, y1, y2, y3, y4, y5, y6, y7]
  refine tk (i := 2) (v := .bool true) rfl (by kernel_rfl) (fun _ _ _ h => HP.out _ _ _ _ h) (by kernel_rfl) ?_ hH0 ?_
  · intro V hS; subst hS; go_simp
  simp only [Act.put, y1, y2, y3, y4, y5, y6, y7]
  refine tk (i := 3) (v := .bool true) rfl (by kernel_rfl) (fun _ _ _ h => HP.out _ _ _ _ h) (by kernel_rfl) ?_ hH0 ?_
  · intro V hS; subst hS; go_simp
  simp only [Act.put, y1, y2, y3, y4, y5, y6, y7]
  refine tkU (i := 4) rfl (by kernel_rfl) (fun _ _ _ h => HP.out _ _ _ _ h) (by kernel_rfl) hH0 ?_
  simp only [Act.put, y1, y2, y3, y4, y5, y6, y7]
  refine tkU (i := 5) rfl (by kernel_rfl) (fun _ _ _ h => HP.out _ _ _ _ h) (by kernel_rfl) hH0 ?_
  simp only [Act.put, y1, y2, y3, y4, y5, y6, y7]
  refine tkU (i := 6) rfl (by kernel_rfl) (fun _ _ _ h => HP.out _ _ _ _ h) (by kernel_rfl) hH0 ?_
  simp only [Act.put, y1, y2, y3, y4, y5, y6, y7]
  refine tkU (i := 7) rfl (by kernel_rfl) (fun _ _ _ h => HP.out _ _ _ _ h) (by kernel_rfl) hH0 ?_
  simp only [Act.put, y1, y2, y3, y4, y5, y6, y7]
  refine tkU (i := 8) rfl (by kernel_rfl) (fun _ _ _ h => HP.out _ _ _ _ h) (by kernel_rfl) hH0 ?_
  simp only [Act.put, y1, y2, y3, y4, y5, y6, y7]
  refine tkU (i := 9) rfl (by kernel_rfl) (fun _ _ _ h => HP.out _ _ _ _ h) (by kernel_rfl) hH0 ?_
  simp only [Act.put, y1, y2, y3, y4, y5, y6, y7]
  refine tkU (i := 10) rfl (by kernel_rfl) (fun _ _ _ h => HP.out _ _ _ _ h) (by kernel_rfl) hH0 ?_
  simp only [Act.put, y1, y2, y3, y4, y5, y6, y7]
  refine tkU (i := 11) rfl (by kernel_rfl) (fun _ _ _ h => HP.out _ _ _ _ h) (by kernel_rfl) hH0 ?_
  simp only [Act.put, y1, y2, y3, y4, y5, y6, y7]
  refine tkU (i := 12) rfl (by kernel_rfl) (fun _ _ _ h => HP.out _ _ _ _ h) (by kernel_rfl) hH0 ?_
  simp only [Act.put, y1, y2, y3, y4, y5, y6, y7]
  refine tkU (i := 13) rfl (by kernel_rfl) (fun _ _ _ h => HP.out _ _ _ _ h) (by kernel_rfl) hH0 ?_
  simp only [Act.put, y1, y2, y3, y4, y5, y6, y7]
  refine tkU (i := 14) rfl (by kernel_rfl) (fun _ _ _ h => HP.out _ _ _ _ h) (by kernel_rfl) hH0 ?_
  simp only [Act.put, y1, y2, y3, y4, y5, y6, y7]
  refine tkU (i := 15) rfl (by kernel_rfl) (fun _ _ _ h => HP.out _ _ _ _ h) (by kernel_rfl) hH0 ?_
  simp only [Act.put, y1, y2, y3, y4, y5, y6, y7]
  refine tkU (i := 16) rfl (by kernel_rfl) (fun _ _ _ h => HP.out _ _ _ _ h) (by kernel_rfl) hH0 ?_
  simp only [Act.put, y1, y2, y3, y4, y5, y6, y7]
  refine tkU (i := 17) rfl (by kernel_rfl) (fun _ _ _ h => HP.out _ _ _ _ h) (by kernel_rfl) hH0 ?_
  simp only [Act.put, y1, y2, y3, y4, y5, y6, y7]
  refine tkU (i := 18) rfl (by kernel_rfl) (fun _ _ _ h => HP.out _ _ _ _ h) (by kernel_rfl) hH0 ?_
  simp only [Act.put, y1, y2, y3, y4, y5, y6, y7]
  refine tk (i := 19) (v := .bool true) rfl (by kernel_rfl) (fun _ _ _ h => HP.out _ _ _ _ h) (by kernel_rfl) ?_ hH0 ?_
  · intro V hS; subst hS; go_simp
  simp only [Act.put, y1, y2, y3, y4, y5, y6, y7]
  refine tk (i := 20) (v := .bool true) rfl (by kernel_rfl) (fun _ _ _ h => HP.out _ _ _ _ h) (by kernel_rfl) ?_ hH0 ?_
  · intro V hS; subst hS; go_simp
  simp only [Act.put, y1, y2, y3, y4, y5, y6, y7]
  refine tkU (i := 21) rfl (by kernel_rfl) (fun _ _ _ h => HP.out _ _ _ _ h) (by kernel_rfl) hH0 ?_
  simp only [Act.put, y1, y2, y3, y4, y5, y6, y7]
  refine tkU (i := 22) rfl (by kernel_rfl) (fun _ _ _ h => HP.out _ _ _ _ h) (by kernel_rfl) hH0 ?_
  simp only [Act.put, y1, y2, y3, y4, y5, y6, y7]
  refine tkU (i := 23) rfl (by kernel_rfl) (fun _ _ _ h => HP.out _ _ _ _ h) (by kernel_rfl) hH0 ?_
  simp only [Act.put, y1, y2, y3, y4, y5, y6, y7]
  refine tkU (i := 24) rfl (by kernel_rfl) (fun _ _ _ h => HP.out _ _ _ _ h) (by kernel_rfl) hH0 ?_
  simp only [Act.put, y1, y2, y3, y4, y5, y6, y7]
  refine tkU (i := 25) rfl (by kernel_rfl) (fun _ _ _ h => HP.out _ _ _ _ h) (by kernel_rfl) hH0 ?_
  simp only [Act.put, y1, y2, y3, y4, y5, y6, y7]
  refine tkU (i := 26) rfl (by kernel_rfl) (fun _ _ _ h => HP.out _ _ _ _ h) (by kernel_rfl) hH0 ?_
  simp only [Act.put, y1, y2, y3, y4, y5, y6, y7]
  refine tkU (i := 27) rfl (by kernel_rfl) (fun _ _ _ h => HP.out _ _ _ _ h) (by kernel_rfl) hH0 ?_
  simp only [Act.put, y1, y2, y3, y4, y5, y6, y7]
  refine tkU (i := 28) rfl (by kernel_rfl) (fun _ _ _ h => HP.out _ _ _ _ h) (by kernel_rfl) hH0 ?_
  simp only [Act.put, y1, y2, y3, y4, y5, y6, y7]
  refine tkU (i := 29) rfl (by kernel_rfl) (fun _ _ _ h => HP.out _ _ _ _ h) (by kernel_rfl) hH0 ?_
  simp only [Act.put, y1, y2, y3, y4, y5, y6, y7]
  refine tkU (i := 30) rfl (by kernel_rfl) (fun _ _ _ h => HP.out _ _ _ _ h) (by kernel_rfl) hH0 ?_
  simp only [Act.put, y1, y2, y3, y4, y5, y6, y7]
  refine tkU (i := 31) rfl (by kernel_rfl) (fun _ _ _ h => HP.out _ _ _ _ h) (by kernel_rfl) hH0 ?_
  simp only [Act.put, y1, y2, y3, y4, y5, y6, y7]
  refine tkU (i := 32) rfl (by kernel_rfl) (fun _ _ _ h => HP.out _ _ _ _ h) (by kernel_rfl) hH0 ?_
  simp only [Act.put, y1, y2, y3, y4, y5, y6, y7]
  refine tkU (i := 33) rfl (by kernel_rfl) (fun _ _ _ h => HP.out _ _ _ _ h) (by kernel_rfl) hH0 ?_
  simp only [Act.put, y1, y2, y3, y4, y5, y6, y7]
  refine tk (i := 34) (v := .bool true) rfl (by kernel_rfl) (fun _ _ _ h => HP.out _ _ _ _ h) (by kernel_rfl) ?_ hH0 ?_
  · intro V hS; subst hS; go_simp
  simp only [Act.put, y1, y2, y3, y4, y5, y6, y7]
  refine wpAnyH_done (by kernel_rfl) ?_ _
  exact HQ.out _ _ _ _ _ _ _ _ _ _ _ _ _ _ _ _ _ _ _ _ _ _ _ _ _ _ _ _ _ _ _ _ _ _
set_option maxHeartbeats 4000000 in
theorem rg23_2 {wr : World} {df : List Deferred} {sb so n c b i j k x1 x2 yc1 x3 x4 yc2 : Nat} {pkj pjk : Int} {Q : Exit → Act → World → Prop} {t1 t2 t3 t4 t7 t8 t12 t13 t14 t15 t16 t17 t18 t19 t20 t21 t22 t23 t24 t25 t26 t27 t28 t29 t30 t31 t32 t33 t34 t35 t36 t37 t38 t39 t40 t41 t42 t43 t44 t45 t46 t47 t48 t49 t50 t51 t52 t53 t54 t55 t56 t57 t58 t59 t60 t61 t62 t63 t64 t65 t66 t67 t68 t69 t70 t71 t72 t73 t74 t75 t76 t77 t78 t79 t80 t81 t82 t83 t84 t85 t86 t87 t88 t89 t90 t91 t92 t93 t94 t95 t96 t97 t98 t99 t100 t101 t102 t103 t104 t105 t106 t107 t108 t109 t110 t111 t112 t113 t114 t115 t116 t117 t118 t119 t120 t121 t122 t123 t124 t125 t126 t127 t128 : Value} (il : (i : Int) < (n : Int)) (jl : (j : Int) < (n : Int)) (kl : (k : Int) < (n : Int)) (e1 : ((i : Int) == (j : Int)) = false) (e2 :  pkj ≤ pjk) (p1 : wr.drew.cell? ⟨sb, so + k, none⟩ = some (.slice (some ⟨x1, x2, none⟩) n yc1)) (p2 : wr.drew.cell? ⟨x1, x2 + j, none⟩ = some (.int .i64 pkj)) (p3 : wr.drew.cell? ⟨sb, so + j, none⟩ = some (.slice (some ⟨x3, x4, none⟩) n yc2)) (p4 : wr.drew.cell? ⟨x3, x4 + k, none⟩ = some (.int .i64 pjk))
    (hQp : ∀ c a a' w, Q (.panic c) a w → Q (.panic c) a' w) (hQ : ∀ u49 u50 u51 u52 u53 u54 u55 u56 u57 u58 u59 u60 u61 u62 u63 u64 u65 u66 u67 u68 u69 u70 u71 u72 u73 u74 u75 u76 u77 u78 u79 u80 u81 u82, Q .normal ⟨#[.slice (some ⟨sb, so, none⟩) n c, t1, t2, t3, t4, .int .i64 (n : Int), .slice (some ⟨b, 0, none⟩) n n, t7, t8, .int .i64 (i : Int), .int .i64 (j : Int), .int .i64 (k : Int), t12, t13, t14, t15, t16, t17, t18, t19, t20, t21, t22, t23, t24, t25, t26, t27, t28, t29, t30, t31, t32, t33, t34, t35, t36, t37, t38, t39, t40, t41, t42, t43, t44, t45, t46, t47, t48, u49, u50, u51, u52, u53, u54, u55, u56, u57, u58, u59, u60, u61, u62, u63, u64, u65, u66, u67, u68, u69, u70, u71, u72, u73, u74, u75, u76, u77, u78, u79, u80, u81, u82, .bool true, t84, t85, t86, t87, t88, t89, t90, t91, t92, t93, t94, t95, t96, t97, t98, t99, t100, t101, t102, t103, t104, t105, t106, t107, t108, t109, t110, t111, t112, t113, t114, t115, t116, t117, t118, t119, t120, t121, t122, t123, t124, t125, t126, t127, t128], df⟩ wr.drew) :
    rg23.wp Try.prog Q ⟨#[.slice (some ⟨sb, so, none⟩) n c, t1, t2, t3, t4, .int .i64 (n : Int), .slice (some ⟨b, 0, none⟩) n n, t7, t8, .int .i64 (i : Int), .int .i64 (j : Int), .int .i64 (k : Int), t12, t13, t14, t15, t16, t17, t18, t19, t20, t21, t22, t23, t24, t25, t26, t27, t28, t29, t30, t31, t32, t33, t34, t35, t36, t37, t38, t39, t40, t41, t42, t43, t44, t45, t46, t47, t48, t49, t50, t51, t52, t53, t54, t55, t56, t57, t58, t59, t60, t61, t62, t63, t64, t65, t66, t67, t68, t69, t70, t71, t72, t73, t74, t75, t76, t77, t78, t79, t80, t81, t82, t83, t84, t85, t86, t87, t88, t89, t90, t91, t92, t93, t94, t95, t96, t97, t98, t99, t100, t101, t102, t103, t104, t105, t106, t107, t108, t109, t110, t111, t112, t113, t114, t115, t116, t117, t118, t119, t120, t121, t122, t123, t124, t125, t126, t127, t128], df⟩ wr := by
  have HP : Hid (∀ c a a' w, Q (.panic c) a w → Q (.panic c) a' w) := hQp
  have HQ : Hid (∀ u49 u50 u51 u52 u53 u54 u55 u56 u57 u58 u59 u60 u61 u62 u63 u64 u65 u66 u67 u68 u69 u70 u71 u72 u73 u74 u75 u76 u77 u78 u79 u80 u81 u82, Q .normal ⟨#[.slice (some ⟨sb, so, none⟩) n c, t1, t2, t3, t4, .int .i64 (n : Int), .slice (some ⟨b, 0, none⟩) n n, t7, t8, .int .i64 (i : Int), .int .i64 (j : Int), .int .i64 (k : Int), t12, t13, t14, t15, t16, t17, t18, t19, t20, t21, t22, t23, t24, t25, t26, t27, t28, t29, t30, t31, t32, t33, t34, t35, t36, t37, t38, t39, t40, t41, t42, t43, t44, t45, t46, t47, t48, u49, u50, u51, u52, u53, u54, u55, u56, u57, u58, u59, u60, u61, u62, u63, u64, u65, u66, u67, u68, u69, u70, u71, u72, u73, u74, u75, u76, u77, u78, u79, u80, u81, u82, .bool true, t84, t85, t86, t87, t88, t89, t90, t91, t92, t93, t94, t95, t96, t97, t98, t99, t100, t101, t102, t103, t104, t105, t106, t107, t108, t109, t110, t111, t112, t113, t114, t115, t116, t117, t118, t119, t120, t121, t122, t123, t124, t125, t126, t127, t128], df⟩ wr.drew) := hQ
  clear hQ hQp
  unfold rg23
  refine wp_region_held_drew (S := fun V => V = wr.drew) (by kernel_rfl) rfl (fun hH0 => ?_)
  generalize wr.drew = X at *
  refine tk (i := 0) (v := .int .i64 (i : Int)) rfl (by kernel_rfl) (fun _ _ _ h => HP.out _ _ _ _ h) (by kernel_rfl) ?_ hH0 ?_
  · intro V hS; subst hS; go_simp
  simp only [Act.put, y1, y2, y3, y4, y5, y6, y7]
  refine tk (i := 1) (v := .int .i64 (j : Int)) rfl (by kernel_rfl) (fun _ _ _ h => HP.out _ _ _ _ h) (by kernel_rfl) ?_ hH0 ?_
  · intro V hS; subst hS; go_simp
  simp only [Act.put, y1, y2, y3, y4, y5, y6, y7]
  refine tk (i := 2) (v := .bool false) rfl (by kernel_rfl) (fun _ _ _ h => HP.out _ _ _ _ h) (by kernel_rfl) ?_ hH0 ?_
  · intro V hS; subst hS; go_simp
  simp only [Act.put, y1, y2, y3, y4, y5, y6, y7]
  refine tk (i := 3) (v := .bool false) rfl (by kernel_rfl) (fun _ _ _ h => HP.out _ _ _ _ h) (by kernel_rfl) ?_ hH0 ?_
  · intro V hS; subst hS; go_simp
  simp only [Act.put, y1, y2, y3, y4, y5, y6, y7]
  refine tk (i := 4) (v := .slice (some ⟨sb, so, none⟩) n c) rfl (by kernel_rfl) (fun _ _ _ h => HP.out _ _ _ _ h) (by kernel_rfl) ?_ hH0 ?_
  · intro V hS; subst hS; go_simp
  simp only [Act.put, y1, y2, y3, y4, y5, y6, y7]
  refine tk (i := 5) (v := .int .i64 (k : Int)) rfl (by kernel_rfl) (fun _ _ _ h => HP.out _ _ _ _ h) (by kernel_rfl) ?_ hH0 ?_
  · intro V hS; subst hS; go_simp
  simp only [Act.put, y1, y2, y3, y4, y5, y6, y7]
  refine tk (i := 6) (v := .pointer (some ⟨sb, so + k, none⟩)) rfl (by kernel_rfl) (fun _ _ _ h => HP.out _ _ _ _ h) (by kernel_rfl) ?_ hH0 ?_
  · intro V hS; subst hS; go_simp
  simp only [Act.put, y1, y2, y3, y4, y5, y6, y7]
  refine tk (i := 7) (v := .slice (some ⟨x1, x2, none⟩) n yc1) rfl (by kernel_rfl) (fun _ _ _ h => HP.out _ _ _ _ h) (by kernel_rfl) ?_ hH0 ?_
  · intro V hS; subst hS; go_simp
  simp only [Act.put, y1, y2, y3, y4, y5, y6, y7]
  refine tk (i := 8) (v := .int .i64 (j : Int)) rfl (by kernel_rfl) (fun _ _ _ h => HP.out _ _ _ _ h) (by kernel_rfl) ?_ hH0 ?_
  · intro V hS; subst hS; go_simp
  simp only [Act.put, y1, y2, y3, y4, y5, y6, y7]
  refine tk (i := 9) (v := .pointer (some ⟨x1, x2 + j, none⟩)) rfl (by kernel_rfl) (fun _ _ _ h => HP.out _ _ _ _ h) (by kernel_rfl) ?_ hH0 ?_
  · intro V hS; subst hS; go_simp
  simp only [Act.put, y1, y2, y3, y4, y5, y6, y7]
  refine tk (i := 10) (v := .int .i64 pkj) rfl (by kernel_rfl) (fun _ _ _ h => HP.out _ _ _ _ h) (by kernel_rfl) ?_ hH0 ?_
  · intro V hS; subst hS; go_simp
  simp only [Act.put, y1, y2, y3, y4, y5, y6, y7]
  refine tk (i := 11) (v := .slice (some ⟨sb, so, none⟩) n c) rfl (by kernel_rfl) (fun _ _ _ h => HP.out _ _ _ _ h) (by kernel_rfl) ?_ hH0 ?_
  · intro V hS; subst hS; go_simp
  simp only [Act.put, y1, y2, y3, y4, y5, y6, y7]
  refine tk (i := 12) (v := .int .i64 (j : Int)) rfl (by kernel_rfl) (fun _ _ _ h => HP.out _ _ _ _ h) (by kernel_rfl) ?_ hH0 ?_
  · intro V hS; subst hS; go_simp
  simp only [Act.put, y1, y2, y3, y4, y5, y6, y7]
  refine tk (i := 13) (v := .pointer (some ⟨sb, so + j, none⟩)) rfl (by kernel_rfl) (fun _ _ _ h => HP.out _ _ _ _ h) (by kernel_rfl) ?_ hH0 ?_
  · intro V hS; subst hS; go_simp
  simp only [Act.put, y1, y2, y3, y4, y5, y6, y7]
  refine tk (i := 14) (v := .slice (some ⟨x3, x4, none⟩) n yc2) rfl (by kernel_rfl) (fun _ _ _ h => HP.out _ _ _ _ h) (by kernel_rfl) ?_ hH0 ?_
  · intro V hS; subst hS; go_simp
  simp only [Act.put, y1, y2, y3, y4, y5, y6, y7]
  refine tk (i := 15) (v := .int .i64 (k : Int)) rfl (by kernel_rfl) (fun _ _ _ h => HP.out _ _ _ _ h) (by kernel_rfl) ?_ hH0 ?_
  · intro V hS; subst hS; go_simp
  simp only [Act.put, y1, y2, y3, y4, y5, y6, y7]
  refine tk (i := 16) (v := .pointer (some ⟨x3, x4 + k, none⟩)) rfl (by kernel_rfl) (fun _ _ _ h => HP.out _ _ _ _ h) (by kernel_rfl) ?_ hH0 ?_
  · intro V hS; subst hS; go_simp
  simp only [Act.put, y1, y2, y3, y4, y5, y6, y7]
  refine tk (i := 17) (v := .int .i64 pjk) rfl (by kernel_rfl) (fun _ _ _ h => HP.out _ _ _ _ h) (by kernel_rfl) ?_ hH0 ?_
  · intro V hS; subst hS; go_simp
  simp only [Act.put, y1, y2, y3, y4, y5, y6, y7]
  refine tk (i := 18) (v := .bool true) rfl (by kernel_rfl) (fun _ _ _ h => HP.out _ _ _ _ h) (by kernel_rfl) ?_ hH0 ?_
  · intro V hS; subst hS; go_simp
  simp only [Act.put, y1, y2, y3, y4, y5, y6, y7]
  refine tk (i := 19) (v := .bool true) rfl (by kernel_rfl) (fun _ _ _ h => HP.out _ _ _ _ h) (by kernel_rfl) ?_ hH0 ?_
  · intro V hS; subst hS; go_simp
  simp only [Act.put, y1, y2, y3, y4, y5, y6, y7]
  refine tk (i := 20) (v := .bool true) rfl (by kernel_rfl) (fun _ _ _ h => HP.out _ _ _ _ h) (by kernel_rfl) ?_ hH0 ?_
  · intro V hS; subst hS; go_simp
  simp only [Act.put, y1, y2, y3, y4, y5, y6, y7]
  refine tkU (i := 21) rfl (by kernel_rfl) (fun _ _ _ h => HP.out _ _ _ _ h) (by kernel_rfl) hH0 ?_
  simp only [Act.put, y1, y2, y3, y4, y5, y6, y7]
  refine tkU (i := 22) rfl (by kernel_rfl) (fun _ _ _ h => HP.out _ _ _ _ h) (by kernel_rfl) hH0 ?_
  simp only [Act.put, y1, y2, y3, y4, y5, y6, y7]
  refine tkU (i := 23) rfl (by kernel_rfl) (fun _ _ _ h => HP.out _ _ _ _ h) (by kernel_rfl) hH0 ?_
  simp only [Act.put, y1, y2, y3, y4, y5, y6, y7]
  refine tkU (i := 24) rfl (by kernel_rfl) (fun _ _ _ h => HP.out _ _ _ _ h) (by kernel_rfl) hH0 ?_
  simp only [Act.put, y1, y2, y3, y4, y5, y6, y7]
  refine tkU (i := 25) rfl (by kernel_rfl) (fun _ _ _ h => HP.out _ _ _ _ h) (by kernel_rfl) hH0 ?_
  simp only [Act.put, y1, y2, y3, y4, y5, y6, y7]
  refine tkU (i := 26) rfl (by kernel_rfl) (fun _ _ _ h => HP.out _ _ _ _ h) (by kernel_rfl) hH0 ?_
  simp only [Act.put, y1, y2, y3, y4, y5, y6, y7]
  refine tkU (i := 27) rfl (by kernel_rfl) (fun _ _ _ h => HP.out _ _ _ _ h) (by kernel_rfl) hH0 ?_
  simp only [Act.put, y1, y2, y3, y4, y5, y6, y7]
  refine tkU (i := 28) rfl (by kernel_rfl) (fun _ _ _ h => HP.out _ _ _ _ h) (by kernel_rfl) hH0 ?_
  simp only [Act.put, y1, y2, y3, y4, y5, y6, y7]
  refine tkU (i := 29) rfl (by kernel_rfl) (fun _ _ _ h => HP.out _ _ _ _ h) (by kernel_rfl) hH0 ?_
  simp only [Act.put, y1, y2, y3, y4, y5, y6, y7]
  refine tkU (i := 30) rfl (by kernel_rfl) (fun _ _ _ h => HP.out _ _ _ _ h) (by kernel_rfl) hH0 ?_
  simp only [Act.put, y1, y2, y3, y4, y5, y6, y7]
  refine tkU (i := 31) rfl (by kernel_rfl) (fun _ _ _ h => HP.out _ _ _ _ h) (by kernel_rfl) hH0 ?_
  simp only [Act.put, y1, y2, y3, y4, y5, y6, y7]
  refine tkU (i := 32) rfl (by kernel_rfl) (fun _ _ _ h => HP.out _ _ _ _ h) (by kernel_rfl) hH0 ?_
  simp only [Act.put, y1, y2, y3, y4, y5, y6, y7]
  refine tkU (i := 33) rfl (by kernel_rfl) (fun _ _ _ h => HP.out _ _ _ _ h) (by kernel_rfl) hH0 ?_
  simp only [Act.put, y1, y2, y3, y4, y5, y6, y7]
  refine tk (i := 34) (v := .bool true) rfl (by kernel_rfl) (fun _ _ _ h => HP.out _ _ _ _ h) (by kernel_rfl) ?_ hH0 ?_
  · intro V hS; subst hS; go_simp
  simp only [Act.put, y1, y2, y3, y4, y5, y6, y7]
  refine wpAnyH_done (by kernel_rfl) ?_ _
  exact HQ.out _ _ _ _ _ _ _ _ _ _ _ _ _ _ _ _ _ _ _ _ _ _ _ _ _ _ _ _ _ _ _ _ _ _
set_option maxHeartbeats 4000000 in
theorem rg23_3 {wr : World} {df : List Deferred} {sb so n c b i j k x1 x2 yc1 x3 x4 yc2 : Nat} {pkj pjk : Int} {Q : Exit → Act → World → Prop} {t1 t2 t3 t4 t7 t8 t12 t13 t14 t15 t16 t17 t18 t19 t20 t21 t22 t23 t24 t25 t26 t27 t28 t29 t30 t31 t32 t33 t34 t35 t36 t37 t38 t39 t40 t41 t42 t43 t44 t45 t46 t47 t48 t49 t50 t51 t52 t53 t54 t55 t56 t57 t58 t59 t60 t61 t62 t63 t64 t65 t66 t67 t68 t69 t70 t71 t72 t73 t74 t75 t76 t77 t78 t79 t80 t81 t82 t83 t84 t85 t86 t87 t88 t89 t90 t91 t92 t93 t94 t95 t96 t97 t98 t99 t100 t101 t102 t103 t104 t105 t106 t107 t108 t109 t110 t111 t112 t113 t114 t115 t116 t117 t118 t119 t120 t121 t122 t123 t124 t125 t126 t127 t128 : Value} (il : (i : Int) < (n : Int)) (jl : (j : Int) < (n : Int)) (kl : (k : Int) < (n : Int)) (e1 : ((i : Int) == (j : Int)) = false) (e2 : ¬ pkj ≤ pjk) (e3 : ((k : Int) != (i : Int)) = false) (p1 : wr.drew.cell? ⟨sb, so + k, none⟩ = some (.slice (some ⟨x1, x2, none⟩) n yc1)) (p2 : wr.drew.cell? ⟨x1, x2 + j, none⟩ = some (.int .i64 pkj)) (p3 : wr.drew.cell? ⟨sb, so + j, none⟩ = some (.slice (some ⟨x3, x4, none⟩) n yc2)) (p4 : wr.drew.cell? ⟨x3, x4 + k, none⟩ = some (.int .i64 pjk))
    (hQp : ∀ c a a' w, Q (.panic c) a w → Q (.panic c) a' w) (hQ : ∀ u49 u50 u51 u52 u53 u54 u55 u56 u57 u58 u59 u60 u61 u62 u63 u64 u65 u66 u67 u68 u69 u70 u71 u72 u73 u74 u75 u76 u77 u78 u79 u80 u81 u82, Q .normal ⟨#[.slice (some ⟨sb, so, none⟩) n c, t1, t2, t3, t4, .int .i64 (n : Int), .slice (some ⟨b, 0, none⟩) n n, t7, t8, .int .i64 (i : Int), .int .i64 (j : Int), .int .i64 (k : Int), t12, t13, t14, t15, t16, t17, t18, t19, t20, t21, t22, t23, t24, t25, t26, t27, t28, t29, t30, t31, t32, t33, t34, t35, t36, t37, t38, t39, t40, t41, t42, t43, t44, t45, t46, t47, t48, u49, u50, u51, u52, u53, u54, u55, u56, u57, u58, u59, u60, u61, u62, u63, u64, u65, u66, u67, u68, u69, u70, u71, u72, u73, u74, u75, u76, u77, u78, u79, u80, u81, u82, .bool false, t84, t85, t86, t87, t88, t89, t90, t91, t92, t93, t94, t95, t96, t97, t98, t99, t100, t101, t102, t103, t104, t105, t106, t107, t108, t109, t110, t111, t112, t113, t114, t115, t116, t117, t118, t119, t120, t121, t122, t123, t124, t125, t126, t127, t128], df⟩ wr.drew) :
    rg23.wp Try.prog Q ⟨#[.slice (some ⟨sb, so, none⟩) n c, t1, t2, t3, t4, .int .i64 (n : Int), .slice (some ⟨b, 0, none⟩) n n, t7, t8, .int .i64 (i : Int), .int .i64 (j : Int), .int .i64 (k : Int), t12, t13, t14, t15, t16, t17, t18, t19, t20, t21, t22, t23, t24, t25, t26, t27, t28, t29, t30, t31, t32, t33, t34, t35, t36, t37, t38, t39, t40, t41, t42, t43, t44, t45, t46, t47, t48, t49, t50, t51, t52, t53, t54, t55, t56, t57, t58, t59, t60, t61, t62, t63, t64, t65, t66, t67, t68, t69, t70, t71, t72, t73, t74, t75, t76, t77, t78, t79, t80, t81, t82, t83, t84, t85, t86, t87, t88, t89, t90, t91, t92, t93, t94, t95, t96, t97, t98, t99, t100, t101, t102, t103, t104, t105, t106, t107, t108, t109, t110, t111, t112, t113, t114, t115, t116, t117, t118, t119, t120, t121, t122, t123, t124, t125, t126, t127, t128], df⟩ wr := by
  have HP : Hid (∀ c a a' w, Q (.panic c) a w → Q (.panic c) a' w) := hQp
  have HQ : Hid (∀ u49 u50 u51 u52 u53 u54 u55 u56 u57 u58 u59 u60 u61 u62 u63 u64 u65 u66 u67 u68 u69 u70 u71 u72 u73 u74 u75 u76 u77 u78 u79 u80 u81 u82, Q .normal ⟨#[.slice (some ⟨sb, so, none⟩) n c, t1, t2, t3, t4, .int .i64 (n : Int), .slice (some ⟨b, 0, none⟩) n n, t7, t8, .int .i64 (i : Int), .int .i64 (j : Int), .int .i64 (k : Int), t12, t13, t14, t15, t16, t17, t18, t19, t20, t21, t22, t23, t24, t25, t26, t27, t28, t29, t30, t31, t32, t33, t34, t35, t36, t37, t38, t39, t40, t41, t42, t43, t44, t45, t46, t47, t48, u49, u50, u51, u52, u53, u54, u55, u56, u57, u58, u59, u60, u61, u62, u63, u64, u65, u66, u67, u68, u69, u70, u71, u72, u73, u74, u75, u76, u77, u78, u79, u80, u81, u82, .bool false, t84, t85, t86, t87, t88, t89, t90, t91, t92, t93, t94, t95, t96, t97, t98, t99, t100, t101, t102, t103, t104, t105, t106, t107, t108, t109, t110, t111, t112, t113, t114, t115, t116, t117, t118, t119, t120, t121, t122, t123, t124, t125, t126, t127, t128], df⟩ wr.drew) := hQ
  clear hQ hQp
  unfold rg23
  refine wp_region_held_drew (S := fun V => V = wr.drew) (by kernel_rfl) rfl (fun hH0 => ?_)
  generalize wr.drew = X at *
  refine tk (i := 0) (v := .int .i64 (i : Int)) rfl (by kernel_rfl) (fun _ _ _ h => HP.out _ _ _ _ h) (by kernel_rfl) ?_ hH0 ?_
  · intro V hS; subst hS; go_simp
  simp only [Act.put, y1, y2, y3, y4, y5, y6, y7]
  refine tk (i := 1) (v := .int .i64 (j : Int)) rfl (by kernel_rfl) (fun _ _ _ h => HP.out _ _ _ _ h) (by kernel_rfl) ?_ hH0 ?_
  · intro V hS; subst hS; go_simp
  simp only [Act.put, y1, y2, y3, y4, y5, y6, y7]
  refine tk (i := 2) (v := .bool false) rfl (by kernel_rfl) (fun _ _ _ h => HP.out _ _ _ _ h) (by kernel_rfl) ?_ hH0 ?_
  · intro V hS; subst hS; go_simp
  simp only [Act.put, y1, y2, y3, y4, y5, y6, y7]
  refine tk (i := 3) (v := .bool false) rfl (by kernel_rfl) (fun _ _ _ h => HP.out _ _ _ _ h) (by kernel_rfl) ?_ hH0 ?_
  · intro V hS; subst hS; go_simp
  simp only [Act.put, y1, y2, y3, y4, y5, y6, y7]
  refine tk (i := 4) (v := .slice (some ⟨sb, so, none⟩) n c) rfl (by kernel_rfl) (fun _ _ _ h => HP.out _ _ _ _ h) (by kernel_rfl) ?_ hH0 ?_
  · intro V hS; subst hS; go_simp
  simp only [Act.put, y1, y2, y3, y4, y5, y6, y7]
  refine tk (i := 5) (v := .int .i64 (k : Int)) rfl (by kernel_rfl) (fun _ _ _ h => HP.out _ _ _ _ h) (by kernel_rfl) ?_ hH0 ?_
  · intro V hS; subst hS; go_simp
  simp only [Act.put, y1, y2, y3, y4, y5, y6, y7]
  refine tk (i := 6) (v := .pointer (some ⟨sb, so + k, none⟩)) rfl (by kernel_rfl) (fun _ _ _ h => HP.out _ _ _ _ h) (by kernel_rfl) ?_ hH0 ?_
  · intro V hS; subst hS; go_simp
  simp only [Act.put, y1, y2, y3, y4, y5, y6, y7]
  refine tk (i := 7) (v := .slice (some ⟨x1, x2, none⟩) n yc1) rfl (by kernel_rfl) (fun _ _ _ h => HP.out _ _ _ _ h) (by kernel_rfl) ?_ hH0 ?_
  · intro V hS; subst hS; go_simp
  simp only [Act.put, y1, y2, y3, y4, y5, y6, y7]
  refine tk (i := 8) (v := .int .i64 (j : Int)) rfl (by kernel_rfl) (fun _ _ _ h => HP.out _ _ _ _ h) (by kernel_rfl) ?_ hH0 ?_
  · intro V hS; subst hS; go_simp
  simp only [Act.put, y1, y2, y3, y4, y5, y6, y7]
  refine tk (i := 9) (v := .pointer (some ⟨x1, x2 + j, none⟩)) rfl (by kernel_rfl) (fun _ _ _ h => HP.out _ _ _ _ h) (by kernel_rfl) ?_ hH0 ?_
  · intro V hS; subst hS; go_simp
  simp only [Act.put, y1, y2, y3, y4, y5, y6, y7]
  refine tk (i := 10) (v := .int .i64 pkj) rfl (by kernel_rfl) (fun _ _ _ h => HP.out _ _ _ _ h) (by kernel_rfl) ?_ hH0 ?_
  · intro V hS; subst hS; go_simp
  simp only [Act.put, y1, y2, y3, y4, y5, y6, y7]
  refine tk (i := 11) (v := .slice (some ⟨sb, so, none⟩) n c) rfl (by kernel_rfl) (fun _ _ _ h => HP.out _ _ _ _ h) (by kernel_rfl) ?_ hH0 ?_
  · intro V hS; subst hS; go_simp
  simp only [Act.put, y1, y2, y3, y4, y5, y6, y7]
  refine tk (i := 12) (v := .int .i64 (j : Int)) rfl (by kernel_rfl) (fun _ _ _ h => HP.out _ _ _ _ h) (by kernel_rfl) ?_ hH0 ?_
  · intro V hS; subst hS; go_simp
  simp only [Act.put, y1, y2, y3, y4, y5, y6, y7]
  refine tk (i := 13) (v := .pointer (some ⟨sb, so + j, none⟩)) rfl (by kernel_rfl) (fun _ _ _ h => HP.out _ _ _ _ h) (by kernel_rfl) ?_ hH0 ?_
  · intro V hS; subst hS; go_simp
  simp only [Act.put, y1, y2, y3, y4, y5, y6, y7]
  refine tk (i := 14) (v := .slice (some ⟨x3, x4, none⟩) n yc2) rfl (by kernel_rfl) (fun _ _ _ h => HP.out _ _ _ _ h) (by kernel_rfl) ?_ hH0 ?_
  · intro V hS; subst hS; go_simp
  simp only [Act.put, y1, y2, y3, y4, y5, y6, y7]
  refine tk (i := 15) (v := .int .i64 (k : Int)) rfl (by kernel_rfl) (fun _ _ _ h => HP.out _ _ _ _ h) (by kernel_rfl) ?_ hH0 ?_
  · intro V hS; subst hS; go_simp
  simp only [Act.put, y1, y2, y3, y4, y5, y6, y7]
  refine tk (i := 16) (v := .pointer (some ⟨x3, x4 + k, none⟩)) rfl (by kernel_rfl) (fun _ _ _ h => HP.out _ _ _ _ h) (by kernel_rfl) ?_ hH0 ?_
  · intro V hS; subst hS; go_simp
  simp only [Act.put, y1, y2, y3, y4, y5, y6, y7]
  refine tk (i := 17) (v := .int .i64 pjk) rfl (by kernel_rfl) (fun _ _ _ h => HP.out _ _ _ _ h) (by kernel_rfl) ?_ hH0 ?_
  · intro V hS; subst hS; go_simp
  simp only [Act.put, y1, y2, y3, y4, y5, y6, y7]
  refine tk (i := 18) (v := .bool false) rfl (by kernel_rfl) (fun _ _ _ h => HP.out _ _ _ _ h) (by kernel_rfl) ?_ hH0 ?_
  · intro V hS; subst hS; go_simp
  simp only [Act.put, y1, y2, y3, y4, y5, y6, y7]
  refine tk (i := 19) (v := .bool false) rfl (by kernel_rfl) (fun _ _ _ h => HP.out _ _ _ _ h) (by kernel_rfl) ?_ hH0 ?_
  · intro V hS; subst hS; go_simp
  simp only [Act.put, y1, y2, y3, y4, y5, y6, y7]
  refine tk (i := 20) (v := .bool false) rfl (by kernel_rfl) (fun _ _ _ h => HP.out _ _ _ _ h) (by kernel_rfl) ?_ hH0 ?_
  · intro V hS; subst hS; go_simp
  simp only [Act.put, y1, y2, y3, y4, y5, y6, y7]
  refine tk (i := 21) (v := .int .i64 (k : Int)) rfl (by kernel_rfl) (fun _ _ _ h => HP.out _ _ _ _ h) (by kernel_rfl) ?_ hH0 ?_
  · intro V hS; subst hS; go_simp
  simp only [Act.put, y1, y2, y3, y4, y5, y6, y7]
  refine tk (i := 22) (v := .int .i64 (i : Int)) rfl (by kernel_rfl) (fun _ _ _ h => HP.out _ _ _ _ h) (by kernel_rfl) ?_ hH0 ?_
  · intro V hS; subst hS; go_simp
  simp only [Act.put, y1, y2, y3, y4, y5, y6, y7]
  refine tk (i := 23) (v := .bool false) rfl (by kernel_rfl) (fun _ _ _ h => HP.out _ _ _ _ h) (by kernel_rfl) ?_ hH0 ?_
  · intro V hS; subst hS; go_simp
  simp only [Act.put, y1, y2, y3, y4, y5, y6, y7]
  refine tk (i := 24) (v := .bool false) rfl (by kernel_rfl) (fun _ _ _ h => HP.out _ _ _ _ h) (by kernel_rfl) ?_ hH0 ?_
  · intro V hS; subst hS; go_simp
  simp only [Act.put, y1, y2, y3, y4, y5, y6, y7]
  refine tkU (i := 25) rfl (by kernel_rfl) (fun _ _ _ h => HP.out _ _ _ _ h) (by kernel_rfl) hH0 ?_
  simp only [Act.put, y1, y2, y3, y4, y5, y6, y7]
  refine tkU (i := 26) rfl (by kernel_rfl) (fun _ _ _ h => HP.out _ _ _ _ h) (by kernel_rfl) hH0 ?_
  simp only [Act.put, y1, y2, y3, y4, y5, y6, y7]
  refine tkU (i := 27) rfl (by kernel_rfl) (fun _ _ _ h => HP.out _ _ _ _ h) (by kernel_rfl) hH0 ?_
  simp only [Act.put, y1, y2, y3, y4, y5, y6, y7]
  refine tkU (i := 28) rfl (by kernel_rfl) (fun _ _ _ h => HP.out _ _ _ _ h) (by kernel_rfl) hH0 ?_
  simp only [Act.put, y1, y2, y3, y4, y5, y6, y7]
  refine tkU (i := 29) rfl (by kernel_rfl) (fun _ _ _ h => HP.out _ _ _ _ h) (by kernel_rfl) hH0 ?_
  simp only [Act.put, y1, y2, y3, y4, y5, y6, y7]
  refine tkU (i := 30) rfl (by kernel_rfl) (fun _ _ _ h => HP.out _ _ _ _ h) (by kernel_rfl) hH0 ?_
  simp only [Act.put, y1, y2, y3, y4, y5, y6, y7]
  refine tkU (i := 31) rfl (by kernel_rfl) (fun _ _ _ h => HP.out _ _ _ _ h) (by kernel_rfl) hH0 ?_
  simp only [Act.put, y1, y2, y3, y4, y5, y6, y7]
  refine tkU (i := 32) rfl (by kernel_rfl) (fun _ _ _ h => HP.out _ _ _ _ h) (by kernel_rfl) hH0 ?_
  simp only [Act.put, y1, y2, y3, y4, y5, y6, y7]
  refine tk (i := 33) (v := .bool false) rfl (by kernel_rfl) (fun _ _ _ h => HP.out _ _ _ _ h) (by kernel_rfl) ?_ hH0 ?_
  · intro V hS; subst hS; go_simp
  simp only [Act.put, y1, y2, y3, y4, y5, y6, y7]
  refine tk (i := 34) (v := .bool false) rfl (by kernel_rfl) (fun _ _ _ h => HP.out _ _ _ _ h) (by kernel_rfl) ?_ hH0 ?_
  · intro V hS; subst hS; go_simp
  simp only [Act.put, y1, y2, y3, y4, y5, y6, y7]
  refine wpAnyH_done (by kernel_rfl) ?_ _
  exact HQ.out _ _ _ _ _ _ _ _ _ _ _ _ _ _ _ _ _ _ _ _ _ _ _ _ _ _ _ _ _ _ _ _ _ _
end Go.Proofs.Ytcdmndcpjememaa
