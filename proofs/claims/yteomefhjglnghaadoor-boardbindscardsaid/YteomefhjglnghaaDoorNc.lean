/- Clash: the region of a piece, and the region that lays a list anew. -/
import Derived.Test.YteomefhjglnghaaDoorNb
set_option linter.unusedSimpArgs false
set_option linter.unusedVariables false
set_option maxRecDepth 100000
namespace Go.Proofs.YteomefhjglnghaaDoor
open Go.RowKit Go.Deep Go.PlainAid

theorem wrapN' {n : Nat} (h : n ≤ 1048578) : IntKind.i64.wrap (n : Int) = (n : Int) := by
  rw [IntKind.wrap_i64]
  omega
def r23 : Code := .region 23 #[{ dst := some 101, op := Go.Op.move (Go.Operand.tmp 25), type := 53, pos := "ref.go:219", after := #[], guard := none }, { dst := some 102, op := Go.Op.load 37 (Go.Operand.tmp 27), type := 37, pos := "ref.go:219", after := #[], guard := none }, { dst := some 103, op := Go.Op.move (Go.Operand.tmp 24), type := 22, pos := "ref.go:219", after := #[], guard := none }, { dst := some 104, op := Go.Op.move (Go.Operand.tmp 26), type := 3, pos := "ref.go:219", after := #[], guard := none }, { dst := some 105, op := Go.Op.indexAddr 22 (Go.Operand.tmp 103) (Go.Operand.tmp 104), type := 0, pos := "ref.go:219", after := #[{ on := 2, ground := Go.Ground.data }, { on := 3, ground := Go.Ground.data }], guard := none }, { dst := some 106, op := Go.Op.load 9 (Go.Operand.tmp 105), type := 9, pos := "ref.go:219", after := #[{ on := 4, ground := Go.Ground.data }], guard := none }, { dst := some 107, op := Go.Op.build 55 #[(0, Go.Operand.tmp 102), (1, Go.Operand.tmp 106)], type := 55, pos := "ref.go:219", after := #[{ on := 1, ground := Go.Ground.data }, { on := 5, ground := Go.Ground.data }], guard := none }, { dst := some 108, op := Go.Op.buildSlice 53 1 #[(0, Go.Operand.tmp 107)], type := 53, pos := "ref.go:219", after := #[{ on := 6, ground := Go.Ground.data }], guard := none }, { dst := some 109, op := Go.Op.call { callee := Go.Callee.builtin Go.Builtin.append, args := #[Go.Operand.tmp 101, Go.Operand.tmp 108], argTypes := #[53, 53] }, type := 53, pos := "ref.go:219", after := #[{ on := 0, ground := Go.Ground.data }, { on := 7, ground := Go.Ground.data }], guard := none }, { dst := some 25, op := Go.Op.assign (Go.Operand.tmp 109), type := 53, pos := "ref.go:219", after := #[{ on := 8, ground := Go.Ground.data }, { on := 8, ground := Go.Ground.chain }, { on := 0, ground := Go.Ground.phase }, { on := 1, ground := Go.Ground.phase }, { on := 2, ground := Go.Ground.phase }, { on := 3, ground := Go.Ground.phase }, { on := 4, ground := Go.Ground.phase }, { on := 5, ground := Go.Ground.phase }, { on := 6, ground := Go.Ground.phase }, { on := 7, ground := Go.Ground.phase }, { on := 8, ground := Go.Ground.phase }], guard := none }] true
def r29 : Code := .region 29 #[{ dst := some 146, op := Go.Op.buildSlice 53 0 #[], type := 53, pos := "ref.go:223", after := #[], guard := none }, { dst := some 147, op := Go.Op.move (Go.Operand.tmp 25), type := 53, pos := "ref.go:223", after := #[], guard := none }, { dst := some 148, op := Go.Op.move (Go.Operand.tmp 28), type := 3, pos := "ref.go:223", after := #[], guard := none }, { dst := some 149, op := Go.Op.slice 53 (Go.Operand.tmp 147) none (some (Go.Operand.tmp 148)) none, type := 53, pos := "ref.go:223", after := #[{ on := 1, ground := Go.Ground.data }, { on := 2, ground := Go.Ground.data }], guard := none }, { dst := some 150, op := Go.Op.call { callee := Go.Callee.builtin Go.Builtin.append, args := #[Go.Operand.tmp 146, Go.Operand.tmp 149], argTypes := #[53, 53] }, type := 53, pos := "ref.go:223", after := #[{ on := 0, ground := Go.Ground.data }, { on := 3, ground := Go.Ground.data }], guard := none }, { dst := some 151, op := Go.Op.load 55 (Go.Operand.tmp 29), type := 55, pos := "ref.go:223", after := #[], guard := none }, { dst := some 152, op := Go.Op.buildSlice 53 1 #[(0, Go.Operand.tmp 151)], type := 53, pos := "ref.go:223", after := #[{ on := 5, ground := Go.Ground.data }], guard := none }, { dst := some 153, op := Go.Op.call { callee := Go.Callee.builtin Go.Builtin.append, args := #[Go.Operand.tmp 150, Go.Operand.tmp 152], argTypes := #[53, 53] }, type := 53, pos := "ref.go:223", after := #[{ on := 4, ground := Go.Ground.data }, { on := 6, ground := Go.Ground.data }, { on := 4, ground := Go.Ground.chain }], guard := none }, { dst := some 154, op := Go.Op.move (Go.Operand.tmp 25), type := 53, pos := "ref.go:223", after := #[], guard := none }, { dst := some 155, op := Go.Op.move (Go.Operand.tmp 28), type := 3, pos := "ref.go:223", after := #[], guard := none }, { dst := some 156, op := Go.Op.binOp Go.BinOp.add 3 (Go.Operand.tmp 155) (Go.Operand.const (Go.Value.int Go.IntKind.i64 2)) 3, type := 3, pos := "ref.go:223", after := #[{ on := 9, ground := Go.Ground.data }], guard := none }, { dst := some 157, op := Go.Op.slice 53 (Go.Operand.tmp 154) (some (Go.Operand.tmp 156)) none none, type := 53, pos := "ref.go:223", after := #[{ on := 8, ground := Go.Ground.data }, { on := 10, ground := Go.Ground.data }], guard := none }, { dst := some 158, op := Go.Op.call { callee := Go.Callee.builtin Go.Builtin.append, args := #[Go.Operand.tmp 153, Go.Operand.tmp 157], argTypes := #[53, 53] }, type := 53, pos := "ref.go:223", after := #[{ on := 7, ground := Go.Ground.data }, { on := 11, ground := Go.Ground.data }, { on := 7, ground := Go.Ground.chain }], guard := none }, { dst := some 25, op := Go.Op.assign (Go.Operand.tmp 158), type := 53, pos := "ref.go:223", after := #[{ on := 12, ground := Go.Ground.data }, { on := 12, ground := Go.Ground.chain }, { on := 0, ground := Go.Ground.phase }, { on := 1, ground := Go.Ground.phase }, { on := 2, ground := Go.Ground.phase }, { on := 3, ground := Go.Ground.phase }, { on := 4, ground := Go.Ground.phase }, { on := 5, ground := Go.Ground.phase }, { on := 6, ground := Go.Ground.phase }, { on := 7, ground := Go.Ground.phase }, { on := 8, ground := Go.Ground.phase }, { on := 9, ground := Go.Ground.phase }, { on := 10, ground := Go.Ground.phase }, { on := 11, ground := Go.Ground.phase }, { on := 12, ground := Go.Ground.phase }], guard := none }] true
set_option maxHeartbeats 4000000 in
theorem r23_top {W : World} {n₀ Bs b o i m cD p1 p2 : Nat} {v16 : Value} {xs : List Value} {s : ByteArray} {R : Act → World → Prop} {t0 t1 t2 t3 t4 t5 t6 t7 t8 t9 t10 t11 t12 t13 t14 t15 t16 t17 t18 t19 t20 t21 t22 t23 t28 t29 t30 t31 t32 t33 t34 t35 t36 t37 t38 t39 t40 t41 t42 t43 t44 t45 t46 t47 t48 t49 t50 t51 t52 t53 t54 t55 t56 t57 t58 t59 t60 t61 t62 t63 t64 t65 t66 t67 t68 t69 t70 t71 t72 t73 t74 t75 t76 t77 t78 t79 t80 t81 t82 t83 t84 t85 t86 t87 t88 t89 t90 t91 t92 t93 t94 t95 t96 t97 t98 t99 t100 t101 t102 t103 t104 t105 t106 t107 t108 t109 t110 t111 t112 t113 t114 t115 t116 t117 t118 t119 t120 t121 t122 t123 t124 t125 t126 t127 t128 t129 t130 t131 t132 t133 t134 t135 t136 t137 t138 t139 t140 t141 t142 t143 t144 t145 t146 t147 t148 t149 t150 t151 t152 t153 t154 t155 t156 t157 t158 t159 t160 t161 t162 t163 t164 t165 t166 t167 t168 t169 t170 t171 t172 t173 t174 t175 t176 t177 : Value}
    (k1 : (i : Int) < (m : Int)) (hk : i < 4194304) (hn₀ : n₀ ≤ W.heap.size) (hb0 : b < n₀) (hrow : W.ownsRow n₀ 55 3 v16 i xs) (bX : IHolds W Bs 37 [.int .i64 (p1 : Int), .int .i64 (p2 : Int)]) (hsc : W.cell? ⟨b, o + i, none⟩ = some (.string s))
    (hQ : ∀ V v' u101 u102 u103 u104 u105 u106 u107 u108 u109, V.ownsRow n₀ 55 3 v' (i + 1) (xs ++ [.int .i64 (p1 : Int), .int .i64 (p2 : Int), .string s]) → Below n₀ W V → R ⟨#[t0, t1, t2, t3, t4, t5, t6, t7, t8, t9, t10, t11, t12, t13, t14, t15, t16, t17, t18, t19, t20, t21, t22, t23, .slice (some ⟨b, o, none⟩) m cD, v', .int .i64 (i : Int), .pointer (some ⟨Bs, 0, none⟩), t28, t29, t30, t31, t32, t33, t34, t35, t36, t37, t38, t39, t40, t41, t42, t43, t44, t45, t46, t47, t48, t49, t50, t51, t52, t53, t54, t55, t56, t57, t58, t59, t60, t61, t62, t63, t64, t65, t66, t67, t68, t69, t70, t71, t72, t73, t74, t75, t76, t77, t78, t79, t80, t81, t82, t83, t84, t85, t86, t87, t88, t89, t90, t91, t92, t93, t94, t95, t96, t97, t98, t99, t100, u101, u102, u103, u104, u105, u106, u107, u108, u109, t110, t111, t112, t113, t114, t115, t116, t117, t118, t119, t120, t121, t122, t123, t124, t125, t126, t127, t128, t129, t130, t131, t132, t133, t134, t135, t136, t137, t138, t139, t140, t141, t142, t143, t144, t145, t146, t147, t148, t149, t150, t151, t152, t153, t154, t155, t156, t157, t158, t159, t160, t161, t162, t163, t164, t165, t166, t167, t168, t169, t170, t171, t172, t173, t174, t175, t176, t177], []⟩ V) :
    r23.wp Tryd.prog (fun e aa ww => match e with | .normal => R aa ww | _ => False) ⟨#[t0, t1, t2, t3, t4, t5, t6, t7, t8, t9, t10, t11, t12, t13, t14, t15, t16, t17, t18, t19, t20, t21, t22, t23, .slice (some ⟨b, o, none⟩) m cD, v16, .int .i64 (i : Int), .pointer (some ⟨Bs, 0, none⟩), t28, t29, t30, t31, t32, t33, t34, t35, t36, t37, t38, t39, t40, t41, t42, t43, t44, t45, t46, t47, t48, t49, t50, t51, t52, t53, t54, t55, t56, t57, t58, t59, t60, t61, t62, t63, t64, t65, t66, t67, t68, t69, t70, t71, t72, t73, t74, t75, t76, t77, t78, t79, t80, t81, t82, t83, t84, t85, t86, t87, t88, t89, t90, t91, t92, t93, t94, t95, t96, t97, t98, t99, t100, t101, t102, t103, t104, t105, t106, t107, t108, t109, t110, t111, t112, t113, t114, t115, t116, t117, t118, t119, t120, t121, t122, t123, t124, t125, t126, t127, t128, t129, t130, t131, t132, t133, t134, t135, t136, t137, t138, t139, t140, t141, t142, t143, t144, t145, t146, t147, t148, t149, t150, t151, t152, t153, t154, t155, t156, t157, t158, t159, t160, t161, t162, t163, t164, t165, t166, t167, t168, t169, t170, t171, t172, t173, t174, t175, t176, t177], []⟩ W := by
  have HQ : Hid (∀ V v' u101 u102 u103 u104 u105 u106 u107 u108 u109, V.ownsRow n₀ 55 3 v' (i + 1) (xs ++ [.int .i64 (p1 : Int), .int .i64 (p2 : Int), .string s]) → Below n₀ W V → R ⟨#[t0, t1, t2, t3, t4, t5, t6, t7, t8, t9, t10, t11, t12, t13, t14, t15, t16, t17, t18, t19, t20, t21, t22, t23, .slice (some ⟨b, o, none⟩) m cD, v', .int .i64 (i : Int), .pointer (some ⟨Bs, 0, none⟩), t28, t29, t30, t31, t32, t33, t34, t35, t36, t37, t38, t39, t40, t41, t42, t43, t44, t45, t46, t47, t48, t49, t50, t51, t52, t53, t54, t55, t56, t57, t58, t59, t60, t61, t62, t63, t64, t65, t66, t67, t68, t69, t70, t71, t72, t73, t74, t75, t76, t77, t78, t79, t80, t81, t82, t83, t84, t85, t86, t87, t88, t89, t90, t91, t92, t93, t94, t95, t96, t97, t98, t99, t100, u101, u102, u103, u104, u105, u106, u107, u108, u109, t110, t111, t112, t113, t114, t115, t116, t117, t118, t119, t120, t121, t122, t123, t124, t125, t126, t127, t128, t129, t130, t131, t132, t133, t134, t135, t136, t137, t138, t139, t140, t141, t142, t143, t144, t145, t146, t147, t148, t149, t150, t151, t152, t153, t154, t155, t156, t157, t158, t159, t160, t161, t162, t163, t164, t165, t166, t167, t168, t169, t170, t171, t172, t173, t174, t175, t176, t177], []⟩ V) := hQ
  have KQ : Hid (∀ V, Below n₀ W V → Two W V → (V.cell? ⟨Bs, 0, none⟩ = some (.int .i64 (p1 : Int)) ∧ V.cell? ⟨Bs, 1, none⟩ = some (.int .i64 (p2 : Int)) ∧ V.cell? ⟨b, o + i, none⟩ = some (.string s))) := fun V hV hT => ⟨(World.cell?_of_block (a := ⟨Bs, 0, none⟩) (hT Bs _ _ bX (Or.inl rfl))).trans (bX.cell 0 (by simp)), (World.cell?_of_block (a := ⟨Bs, 1, none⟩) (hT Bs _ _ bX (Or.inl rfl))).trans (bX.cell 1 (by simp)), (hV.cell (p := ⟨b, o + i, none⟩) hb0).trans hsc⟩
  have HR : Hid (W.ownsRow n₀ 55 3 v16 i xs) := hrow
  obtain ⟨i0, hi0, hz0, hz1, hz2⟩ := info_parts info66
  clear hQ hrow bX hsc
  unfold r23
  refine wp_region_held_drew (S := fun V => V.cell? ⟨Bs, 0, none⟩ = some (.int .i64 (p1 : Int)) ∧ V.cell? ⟨Bs, 1, none⟩ = some (.int .i64 (p2 : Int)) ∧ V.cell? ⟨b, o + i, none⟩ = some (.string s)) (by kernel_rfl) (KQ.out _ (Below.refl _ _).drew (fun _ _ _ _ _ => rfl)) (fun hH0 => ?_)
  have D0 : Hid (Below W.heap.size W W.drew) := (Below.refl _ W).drew
  generalize W.drew = v0 at *
  refine tk (i := 0) (v := v16) rfl (by kernel_rfl) (fun _ _ _ h => h) (by kernel_rfl) ?_ hH0 ?_
  · intro V hS; obtain ⟨q1, q2, q3⟩ := hS; go_simp; try (first | omega | exact wrapN (by omega) | go_num)
  simp only [Act.put, List.getElem_toArray, List.getElem_cons_succ, List.getElem_cons_zero, Array.toArray_toList, List.size_toArray, List.setIfInBounds_toArray, List.set_cons_zero, List.set_cons_succ]
  refine tk (i := 1) (v := .agg #[.int .i64 (p1 : Int), .int .i64 (p2 : Int)]) rfl (by kernel_rfl) (fun _ _ _ h => h) (by kernel_rfl) ?_ hH0 ?_
  · intro V hS; obtain ⟨q1, q2, q3⟩ := hS; go_simp; try (first | omega | exact wrapN (by omega) | go_num)
  simp only [Act.put, List.getElem_toArray, List.getElem_cons_succ, List.getElem_cons_zero, Array.toArray_toList, List.size_toArray, List.setIfInBounds_toArray, List.set_cons_zero, List.set_cons_succ]
  refine tk (i := 2) (v := .slice (some ⟨b, o, none⟩) m cD) rfl (by kernel_rfl) (fun _ _ _ h => h) (by kernel_rfl) ?_ hH0 ?_
  · intro V hS; obtain ⟨q1, q2, q3⟩ := hS; go_simp; try (first | omega | exact wrapN (by omega) | go_num)
  simp only [Act.put, List.getElem_toArray, List.getElem_cons_succ, List.getElem_cons_zero, Array.toArray_toList, List.size_toArray, List.setIfInBounds_toArray, List.set_cons_zero, List.set_cons_succ]
  refine tk (i := 3) (v := .int .i64 (i : Int)) rfl (by kernel_rfl) (fun _ _ _ h => h) (by kernel_rfl) ?_ hH0 ?_
  · intro V hS; obtain ⟨q1, q2, q3⟩ := hS; go_simp; try (first | omega | exact wrapN (by omega) | go_num)
  simp only [Act.put, List.getElem_toArray, List.getElem_cons_succ, List.getElem_cons_zero, Array.toArray_toList, List.size_toArray, List.setIfInBounds_toArray, List.set_cons_zero, List.set_cons_succ]
  refine tk (i := 4) (v := .pointer (some ⟨b, o + i, none⟩)) rfl (by kernel_rfl) (fun _ _ _ h => h) (by kernel_rfl) ?_ hH0 ?_
  · intro V hS; obtain ⟨q1, q2, q3⟩ := hS; go_simp; try (first | omega | exact wrapN (by omega) | go_num)
  simp only [Act.put, List.getElem_toArray, List.getElem_cons_succ, List.getElem_cons_zero, Array.toArray_toList, List.size_toArray, List.setIfInBounds_toArray, List.set_cons_zero, List.set_cons_succ]
  refine tk (i := 5) (v := .string s) rfl (by kernel_rfl) (fun _ _ _ h => h) (by kernel_rfl) ?_ hH0 ?_
  · intro V hS; obtain ⟨q1, q2, q3⟩ := hS; go_simp; try (first | omega | exact wrapN (by omega) | go_num)
  simp only [Act.put, List.getElem_toArray, List.getElem_cons_succ, List.getElem_cons_zero, Array.toArray_toList, List.size_toArray, List.setIfInBounds_toArray, List.set_cons_zero, List.set_cons_succ]
  refine tk (i := 6) (v := .agg #[.int .i64 (p1 : Int), .int .i64 (p2 : Int), .string s]) rfl (by kernel_rfl) (fun _ _ _ h => h) (by kernel_rfl) ?_ hH0 ?_
  · intro V hS; obtain ⟨q1, q2, q3⟩ := hS; go_simp; try (first | omega | exact wrapN (by omega) | go_num)
  simp only [Act.put, List.getElem_toArray, List.getElem_cons_succ, List.getElem_cons_zero, Array.toArray_toList, List.size_toArray, List.setIfInBounds_toArray, List.set_cons_zero, List.set_cons_succ]
  refine wpAnyH_ready (rs := [7]) (by kernel_rfl) (by simp) ?_
  refine AllReadyH.cons rfl (fun K hK => ?_) AllReadyH.nil
  clear hH0
  go_simp
  have D7 : Hid (Below W.heap.size W (v0.alloc (.cells #[.int .i64 (p1 : Int), .int .i64 (p2 : Int), .string s] 55))) := D0.out.trans ((nB v0 _).mono D0.out.size)
  refine hK.out _ _ (KQ.out _ (D7.out.mono hn₀) (Two.below D7.out)) (fun hH0 => ?_)
  clear hK K
  try simp only [Act.put, List.getElem_toArray, List.getElem_cons_succ, List.getElem_cons_zero, Array.toArray_toList, List.size_toArray, List.setIfInBounds_toArray, List.set_cons_zero, List.set_cons_succ]
  refine wpAnyH_ready (rs := [8]) (by kernel_rfl) (by simp) ?_
  refine AllReadyH.cons rfl (fun K hK => ?_) AllReadyH.nil
  clear hH0
  have hO8 : Hid ((v0.alloc (.cells #[.int .i64 (p1 : Int), .int .i64 (p2 : Int), .string s] 55)).ownsRow n₀ 55 3 v16 i xs) := row_keep HR.out D7.out
  refine wp_append_own _ (.tmp 101) (.tmp 108) 53 rfl n₀ 55 i0 (.agg #[.int .i64 0, .int .i64 0, .string ⟨#[]⟩]) 3 32 Tryd.underlying53 hi0 hz0 hz1 hz2 rfl (by decide) v16 i xs rfl hO8.out ⟨v0.heap.size, 0, none⟩ 1 1 [.int .i64 (p1 : Int), .int .i64 (p2 : Int), .string s] rfl rfl (three_newsT v0 _ _ _ _) (fun u hu => by simp at hu; rcases hu with rfl | rfl | rfl <;> rfl) (by unfold maxLen; omega) (by omega) (Nat.le_trans hn₀ D7.out.size) ?_
  intro v9 w9 hown hgrow hnn
  have T9 : Hid (Two W w9) := (Two.below D7.out).trans (Two.grown (by decide) hO8.out hgrow)
  have B9 : Hid (Below n₀ W w9) := (D7.out.mono hn₀).grown hgrow (Nat.le_trans hn₀ D7.out.size) (fun k hk => (hO8.out.lt k hk).1)
  have O9 : Hid (w9.ownsRow n₀ 55 3 v9 (i + 1) (xs ++ [.int .i64 (p1 : Int), .int .i64 (p2 : Int), .string s])) := hown
  clear hown hgrow hnn
  refine hK.out _ _ (KQ.out _ B9.out T9.out) (fun hH0 => ?_)
  clear hK K
  try simp only [Act.put, List.getElem_toArray, List.getElem_cons_succ, List.getElem_cons_zero, Array.toArray_toList, List.size_toArray, List.setIfInBounds_toArray, List.set_cons_zero, List.set_cons_succ]
  refine tk (i := 9) (v := v9) rfl (by kernel_rfl) (fun _ _ _ h => h) (by kernel_rfl) ?_ hH0 ?_
  · intro V hS; obtain ⟨q1, q2, q3⟩ := hS; go_simp; try (first | omega | exact wrapN (by omega) | go_num)
  simp only [Act.put, List.getElem_toArray, List.getElem_cons_succ, List.getElem_cons_zero, Array.toArray_toList, List.size_toArray, List.setIfInBounds_toArray, List.set_cons_zero, List.set_cons_succ]
  refine wpAnyH_done (by kernel_rfl) ?_ _
  exact HQ.out _ _ _ _ _ _ _ _ _ _ _ O9.out B9.out
set_option maxHeartbeats 4000000 in
theorem r29_top {W : World} {g n cap i n2 r B a1 b2 : Nat} {D : ByteArray} {xs ys : List Value} {R : Act → World → Prop} {t0 t1 t2 t3 t4 t5 t6 t7 t8 t9 t10 t11 t12 t13 t14 t15 t16 t17 t18 t19 t20 t21 t22 t23 t24 t26 t27 t30 t31 t32 t33 t34 t35 t36 t37 t38 t39 t40 t41 t42 t43 t44 t45 t46 t47 t48 t49 t50 t51 t52 t53 t54 t55 t56 t57 t58 t59 t60 t61 t62 t63 t64 t65 t66 t67 t68 t69 t70 t71 t72 t73 t74 t75 t76 t77 t78 t79 t80 t81 t82 t83 t84 t85 t86 t87 t88 t89 t90 t91 t92 t93 t94 t95 t96 t97 t98 t99 t100 t101 t102 t103 t104 t105 t106 t107 t108 t109 t110 t111 t112 t113 t114 t115 t116 t117 t118 t119 t120 t121 t122 t123 t124 t125 t126 t127 t128 t129 t130 t131 t132 t133 t134 t135 t136 t137 t138 t139 t140 t141 t142 t143 t144 t145 t146 t147 t148 t149 t150 t151 t152 t153 t154 t155 t156 t157 t158 t159 t160 t161 t162 t163 t164 t165 t166 t167 t168 t169 t170 t171 t172 t173 t174 t175 t176 t177 : Value}
    (k0 : (i : Int) ≤ (cap : Int)) (k1 : (n2 : Int) ≤ (n : Int)) (k2 : (i : Int) + 2 = (n2 : Int)) (k3 : IntKind.i64.wrap (n2 : Int) = (n2 : Int)) (k4 : (n : Int) ≤ (cap : Int)) (hr : n = n2 + r) (hn : n ≤ 1048576) (hin : i < n) (hgW : g < W.heap.size) (hx : xs.length = i * 3) (hy : ys.length = r * 3)
    (hx1 : ∀ u ∈ xs, u.oneCell' = true) (hy1 : ∀ u ∈ ys, u.oneCell' = true)
    (hxc : ∀ j u, xs[j]? = some u → W.cell? ⟨g, j, none⟩ = some u) (hyc : ∀ j u, ys[j]? = some u → W.cell? ⟨g, n2 * 3 + j, none⟩ = some u) (IB : IHolds W B 55 [.int .i64 (a1 : Int), .int .i64 (b2 : Int), .string D])
    (hQ : ∀ V v' u146 u147 u148 u149 u150 u151 u152 u153 u154 u155 u156 u157 u158, Below W.heap.size W V → V.ownsRow W.heap.size 55 3 v' (i + 1 + r) (xs ++ [.int .i64 (a1 : Int), .int .i64 (b2 : Int), .string D] ++ ys) → R ⟨#[t0, t1, t2, t3, t4, t5, t6, t7, t8, t9, t10, t11, t12, t13, t14, t15, t16, t17, t18, t19, t20, t21, t22, t23, t24, v', t26, t27, .int .i64 (i : Int), .pointer (some ⟨B, 0, none⟩), t30, t31, t32, t33, t34, t35, t36, t37, t38, t39, t40, t41, t42, t43, t44, t45, t46, t47, t48, t49, t50, t51, t52, t53, t54, t55, t56, t57, t58, t59, t60, t61, t62, t63, t64, t65, t66, t67, t68, t69, t70, t71, t72, t73, t74, t75, t76, t77, t78, t79, t80, t81, t82, t83, t84, t85, t86, t87, t88, t89, t90, t91, t92, t93, t94, t95, t96, t97, t98, t99, t100, t101, t102, t103, t104, t105, t106, t107, t108, t109, t110, t111, t112, t113, t114, t115, t116, t117, t118, t119, t120, t121, t122, t123, t124, t125, t126, t127, t128, t129, t130, t131, t132, t133, t134, t135, t136, t137, t138, t139, t140, t141, t142, t143, t144, t145, u146, u147, u148, u149, u150, u151, u152, u153, u154, u155, u156, u157, u158, t159, t160, t161, t162, t163, t164, t165, t166, t167, t168, t169, t170, t171, t172, t173, t174, t175, t176, t177], []⟩ V) :
    r29.wp Tryd.prog (fun e aa ww => match e with | .normal => R aa ww | _ => False) ⟨#[t0, t1, t2, t3, t4, t5, t6, t7, t8, t9, t10, t11, t12, t13, t14, t15, t16, t17, t18, t19, t20, t21, t22, t23, t24, .slice (some ⟨g, 0, none⟩) n cap, t26, t27, .int .i64 (i : Int), .pointer (some ⟨B, 0, none⟩), t30, t31, t32, t33, t34, t35, t36, t37, t38, t39, t40, t41, t42, t43, t44, t45, t46, t47, t48, t49, t50, t51, t52, t53, t54, t55, t56, t57, t58, t59, t60, t61, t62, t63, t64, t65, t66, t67, t68, t69, t70, t71, t72, t73, t74, t75, t76, t77, t78, t79, t80, t81, t82, t83, t84, t85, t86, t87, t88, t89, t90, t91, t92, t93, t94, t95, t96, t97, t98, t99, t100, t101, t102, t103, t104, t105, t106, t107, t108, t109, t110, t111, t112, t113, t114, t115, t116, t117, t118, t119, t120, t121, t122, t123, t124, t125, t126, t127, t128, t129, t130, t131, t132, t133, t134, t135, t136, t137, t138, t139, t140, t141, t142, t143, t144, t145, t146, t147, t148, t149, t150, t151, t152, t153, t154, t155, t156, t157, t158, t159, t160, t161, t162, t163, t164, t165, t166, t167, t168, t169, t170, t171, t172, t173, t174, t175, t176, t177], []⟩ W := by
  have HQ : Hid (∀ V v' u146 u147 u148 u149 u150 u151 u152 u153 u154 u155 u156 u157 u158, Below W.heap.size W V → V.ownsRow W.heap.size 55 3 v' (i + 1 + r) (xs ++ [.int .i64 (a1 : Int), .int .i64 (b2 : Int), .string D] ++ ys) → R ⟨#[t0, t1, t2, t3, t4, t5, t6, t7, t8, t9, t10, t11, t12, t13, t14, t15, t16, t17, t18, t19, t20, t21, t22, t23, t24, v', t26, t27, .int .i64 (i : Int), .pointer (some ⟨B, 0, none⟩), t30, t31, t32, t33, t34, t35, t36, t37, t38, t39, t40, t41, t42, t43, t44, t45, t46, t47, t48, t49, t50, t51, t52, t53, t54, t55, t56, t57, t58, t59, t60, t61, t62, t63, t64, t65, t66, t67, t68, t69, t70, t71, t72, t73, t74, t75, t76, t77, t78, t79, t80, t81, t82, t83, t84, t85, t86, t87, t88, t89, t90, t91, t92, t93, t94, t95, t96, t97, t98, t99, t100, t101, t102, t103, t104, t105, t106, t107, t108, t109, t110, t111, t112, t113, t114, t115, t116, t117, t118, t119, t120, t121, t122, t123, t124, t125, t126, t127, t128, t129, t130, t131, t132, t133, t134, t135, t136, t137, t138, t139, t140, t141, t142, t143, t144, t145, u146, u147, u148, u149, u150, u151, u152, u153, u154, u155, u156, u157, u158, t159, t160, t161, t162, t163, t164, t165, t166, t167, t168, t169, t170, t171, t172, t173, t174, t175, t176, t177], []⟩ V) := hQ
  have KQ : Hid (∀ V, Below W.heap.size W V → (V.cell? ⟨B, 0, none⟩ = some (.int .i64 (a1 : Int)) ∧ V.cell? ⟨B, 1, none⟩ = some (.int .i64 (b2 : Int)) ∧ V.cell? ⟨B, 2, none⟩ = some (.string D))) := fun V hV => ⟨(IB.of_below hV).cell 0 (by simp), (IB.of_below hV).cell 1 (by simp), (IB.of_below hV).cell 2 (by simp)⟩
  have HX : Hid (∀ V, Below W.heap.size W V → ∀ j u, xs[j]? = some u → V.cell? ((⟨g, 0, none⟩ : Addr).add j) = some u) := fun V hV j u hj => by
    have q := cell_keep (hxc j u hj) hV
    unfold Addr.add
    by_cases h0 : j = 0
    · subst h0; simpa using q
    · simpa [h0] using q
  obtain ⟨oy, hoy, hoy2⟩ : ∃ oy, (if cap = n2 then some (⟨g, 0, none⟩ : Addr) else some ⟨g, n2 * 3, none⟩) = some ⟨g, oy, none⟩ ∧ (0 < r → oy = n2 * 3) := by
    by_cases hq : cap = n2
    · exact ⟨0, by rw [if_pos hq], fun q => by omega⟩
    · exact ⟨n2 * 3, by rw [if_neg hq], fun _ => rfl⟩
  have HY : Hid (∀ V, Below W.heap.size W V → ∀ j u, ys[j]? = some u → V.cell? ((⟨g, oy, none⟩ : Addr).add j) = some u) := fun V hV j u hj => by
    have hlt := (List.getElem?_eq_some_iff.1 hj).1
    have q := cell_keep (hyc j u hj) hV
    rw [← hoy2 (by omega)] at q
    unfold Addr.add
    by_cases h0 : j = 0
    · subst h0; simpa using q
    · simpa [h0] using q
  obtain ⟨i0, hi0, hz0, hz1, hz2⟩ := info_parts info66
  have e1 : n - n2 = r := by omega
  obtain ⟨cr, hcr⟩ : ∃ cr, cr = cap - n2 := ⟨_, rfl⟩
  have e2 : cap - n2 = cr := hcr.symm
  have kk1 : (n : Int) - (n2 : Int) = (r : Int) := by omega
  have kk2 : (cap : Int) - (n2 : Int) = (cr : Int) := by omega
  have HRR : Hid (n = n2 + r) := hr
  have hnr : i + 1 + r ≤ 1048576 := by omega
  clear hQ IB hxc hyc hcr hr hoy2
  unfold r29
  refine wp_region_held_drew (S := fun V => V.cell? ⟨B, 0, none⟩ = some (.int .i64 (a1 : Int)) ∧ V.cell? ⟨B, 1, none⟩ = some (.int .i64 (b2 : Int)) ∧ V.cell? ⟨B, 2, none⟩ = some (.string D)) (by kernel_rfl) (KQ.out _ (Below.refl _ _).drew) (fun hH0 => ?_)
  have D0 : Hid (Below W.heap.size W W.drew) := (Below.refl _ W).drew
  generalize W.drew = v0 at *
  refine tk (i := 1) (v := .slice (some ⟨g, 0, none⟩) n cap) rfl (by kernel_rfl) (fun _ _ _ h => h) (by kernel_rfl) ?_ hH0 ?_
  · intro V hS; obtain ⟨q1, q2, q3⟩ := hS; go_simp; try (first | omega | exact wrapN (by omega) | go_num)
  simp only [Act.put, List.getElem_toArray, List.getElem_cons_succ, List.getElem_cons_zero, Array.toArray_toList, List.size_toArray, List.setIfInBounds_toArray, List.set_cons_zero, List.set_cons_succ]
  refine tk (i := 2) (v := .int .i64 (i : Int)) rfl (by kernel_rfl) (fun _ _ _ h => h) (by kernel_rfl) ?_ hH0 ?_
  · intro V hS; obtain ⟨q1, q2, q3⟩ := hS; go_simp; try (first | omega | exact wrapN (by omega) | go_num)
  simp only [Act.put, List.getElem_toArray, List.getElem_cons_succ, List.getElem_cons_zero, Array.toArray_toList, List.size_toArray, List.setIfInBounds_toArray, List.set_cons_zero, List.set_cons_succ]
  refine tk (i := 3) (v := .slice (some ⟨g, 0, none⟩) i cap) rfl (by kernel_rfl) (fun _ _ _ h => h) (by kernel_rfl) ?_ hH0 ?_
  · intro V hS; obtain ⟨q1, q2, q3⟩ := hS; go_simp; try (first | omega | exact wrapN (by omega) | go_num)
  simp only [Act.put, List.getElem_toArray, List.getElem_cons_succ, List.getElem_cons_zero, Array.toArray_toList, List.size_toArray, List.setIfInBounds_toArray, List.set_cons_zero, List.set_cons_succ]
  refine tk (i := 5) (v := .agg #[.int .i64 (a1 : Int), .int .i64 (b2 : Int), .string D]) rfl (by kernel_rfl) (fun _ _ _ h => h) (by kernel_rfl) ?_ hH0 ?_
  · intro V hS; obtain ⟨q1, q2, q3⟩ := hS; go_simp; try (first | omega | exact wrapN (by omega) | go_num)
  simp only [Act.put, List.getElem_toArray, List.getElem_cons_succ, List.getElem_cons_zero, Array.toArray_toList, List.size_toArray, List.setIfInBounds_toArray, List.set_cons_zero, List.set_cons_succ]
  refine tk (i := 8) (v := .slice (some ⟨g, 0, none⟩) n cap) rfl (by kernel_rfl) (fun _ _ _ h => h) (by kernel_rfl) ?_ hH0 ?_
  · intro V hS; obtain ⟨q1, q2, q3⟩ := hS; go_simp; try (first | omega | exact wrapN (by omega) | go_num)
  simp only [Act.put, List.getElem_toArray, List.getElem_cons_succ, List.getElem_cons_zero, Array.toArray_toList, List.size_toArray, List.setIfInBounds_toArray, List.set_cons_zero, List.set_cons_succ]
  refine tk (i := 9) (v := .int .i64 (i : Int)) rfl (by kernel_rfl) (fun _ _ _ h => h) (by kernel_rfl) ?_ hH0 ?_
  · intro V hS; obtain ⟨q1, q2, q3⟩ := hS; go_simp; try (first | omega | exact wrapN (by omega) | go_num)
  simp only [Act.put, List.getElem_toArray, List.getElem_cons_succ, List.getElem_cons_zero, Array.toArray_toList, List.size_toArray, List.setIfInBounds_toArray, List.set_cons_zero, List.set_cons_succ]
  refine tk (i := 10) (v := .int .i64 (n2 : Int)) rfl (by kernel_rfl) (fun _ _ _ h => h) (by kernel_rfl) ?_ hH0 ?_
  · intro V hS; obtain ⟨q1, q2, q3⟩ := hS; go_simp; try (first | omega | exact wrapN (by omega) | go_num)
  simp only [Act.put, List.getElem_toArray, List.getElem_cons_succ, List.getElem_cons_zero, Array.toArray_toList, List.size_toArray, List.setIfInBounds_toArray, List.set_cons_zero, List.set_cons_succ]
  refine tk (i := 11) (v := .slice (some ⟨g, oy, none⟩) r cr) rfl (by kernel_rfl) (fun _ _ _ h => h) (by kernel_rfl) ?_ hH0 ?_
  · intro V hS; obtain ⟨q1, q2, q3⟩ := hS; go_simp; (try rw [hoy]); try (first | omega | exact wrapN (by omega) | go_num)
  simp only [Act.put, List.getElem_toArray, List.getElem_cons_succ, List.getElem_cons_zero, Array.toArray_toList, List.size_toArray, List.setIfInBounds_toArray, List.set_cons_zero, List.set_cons_succ]
  refine wpAnyH_ready (rs := [0, 6]) (by kernel_rfl) (by simp) ?_
  refine AllReadyH.cons rfl (fun K hK => ?_) (AllReadyH.cons rfl (fun K hK => ?_) AllReadyH.nil)
  · clear hH0
    go_simp
    have O0 : Hid ((v0.alloc (.cells #[] 55)).ownsRow W.heap.size 55 3 (.slice (some ⟨v0.heap.size, 0, none⟩) 0 0) 0 []) := none_own D0.out.size
    have E0 : Hid (Below W.heap.size W (v0.alloc (.cells #[] 55))) := D0.out.trans ((nB v0 _).mono D0.out.size)
    generalize hg0 : v0.heap.size = g0 at *
    have G0 : Hid (g0 < (v0.alloc (.cells #[] 55)).heap.size) := by show _ < _; rw [← hg0]; simp
    generalize v0.alloc (.cells #[] 55) = X0 at *
    clear hg0
    refine hK.out _ _ (KQ.out _ E0.out) (fun hH0 => ?_)
    clear hK K
    try simp only [Act.put, List.getElem_toArray, List.getElem_cons_succ, List.getElem_cons_zero, Array.toArray_toList, List.size_toArray, List.setIfInBounds_toArray, List.set_cons_zero, List.set_cons_succ]
    refine wpAnyH_ready (rs := [4, 6]) (by kernel_rfl) (by simp) ?_
    refine AllReadyH.cons rfl (fun K hK => ?_) (AllReadyH.cons rfl (fun K hK => ?_) AllReadyH.nil)
    · clear hH0
      refine wp_append_own _ (.tmp 146) (.tmp 149) 53 rfl W.heap.size 55 i0 (.agg #[.int .i64 0, .int .i64 0, .string ⟨#[]⟩]) 3 32 Tryd.underlying53 hi0 hz0 hz1 hz2 rfl (by decide) (.slice (some ⟨g0, 0, none⟩) 0 0) 0 [] rfl O0.out ⟨g, 0, none⟩ i cap xs rfl hx (HX.out _ E0.out) hx1 (by unfold maxLen; omega) (by omega) E0.out.size ?_
      intro v4 X4 hown hgrow hnn
      have E4 : Hid (Below W.heap.size W X4) := E0.out.grown hgrow E0.out.size (fun k hk => (O0.out.lt k hk).1)
      have O4 : Hid (X4.ownsRow W.heap.size 55 3 v4 (0 + i) ([] ++ xs)) := hown
      clear hown hgrow hnn O0
      refine hK.out _ _ (KQ.out _ E4.out) (fun hH0 => ?_)
      clear hK K
      try simp only [Act.put, List.getElem_toArray, List.getElem_cons_succ, List.getElem_cons_zero, Array.toArray_toList, List.size_toArray, List.setIfInBounds_toArray, List.set_cons_zero, List.set_cons_succ]
      refine wpAnyH_ready (rs := [6]) (by kernel_rfl) (by simp) ?_
      refine AllReadyH.cons rfl (fun K hK => ?_) AllReadyH.nil
      clear hH0
      go_simp
      have I6 : Hid (IHolds (X4.alloc (.cells #[.int .i64 (a1 : Int), .int .i64 (b2 : Int), .string D] 55)) X4.heap.size 55 [.int .i64 (a1 : Int), .int .i64 (b2 : Int), .string D]) := IHolds.new X4 55 [.int .i64 (a1 : Int), .int .i64 (b2 : Int), .string D]
      have E6 : Hid (Below W.heap.size W (X4.alloc (.cells #[.int .i64 (a1 : Int), .int .i64 (b2 : Int), .string D] 55))) := E4.out.trans ((nB X4 _).mono E4.out.size)
      have P4 : Hid ((X4.alloc (.cells #[.int .i64 (a1 : Int), .int .i64 (b2 : Int), .string D] 55)).ownsRow W.heap.size 55 3 v4 (0 + i) ([] ++ xs)) := row_keep O4.out (nB X4 _)
      clear O4
      have L6 : Hid (X4.heap.size < (X4.alloc (.cells #[.int .i64 (a1 : Int), .int .i64 (b2 : Int), .string D] 55)).heap.size) := by show _ < _; simp
      generalize X4.alloc (.cells #[.int .i64 (a1 : Int), .int .i64 (b2 : Int), .string D] 55) = X6 at *
      generalize X4.heap.size = b6 at *
      refine hK.out _ _ (KQ.out _ E6.out) (fun hH0 => ?_)
      clear hK K
      try simp only [Act.put, List.getElem_toArray, List.getElem_cons_succ, List.getElem_cons_zero, Array.toArray_toList, List.size_toArray, List.setIfInBounds_toArray, List.set_cons_zero, List.set_cons_succ]
      have O4 : Hid _ := P4
      clear P4
      refine wpAnyH_ready (rs := [7]) (by kernel_rfl) (by simp) ?_
      refine AllReadyH.cons rfl (fun K hK => ?_) AllReadyH.nil
      clear hH0
      refine wp_append_own _ (.tmp 150) (.tmp 152) 53 rfl W.heap.size 55 i0 (.agg #[.int .i64 0, .int .i64 0, .string ⟨#[]⟩]) 3 32 Tryd.underlying53 hi0 hz0 hz1 hz2 rfl (by decide) v4 (0 + i) ([] ++ xs) rfl O4.out ⟨b6, 0, none⟩ 1 1 [.int .i64 (a1 : Int), .int .i64 (b2 : Int), .string D] rfl rfl (I6.out.newsA) (fun u hu => by simp at hu; rcases hu with rfl | rfl | rfl <;> rfl) (by unfold maxLen; omega) (by omega) E6.out.size ?_
      intro v7 X7 hown hgrow hnn
      have D7 : Hid (Below W.heap.size W X7) := E6.out.grown hgrow E6.out.size (fun k hk => (O4.out.lt k hk).1)
      have O7 : Hid (X7.ownsRow W.heap.size 55 3 v7 (0 + i + 1) ([] ++ xs ++ [.int .i64 (a1 : Int), .int .i64 (b2 : Int), .string D])) := hown
      clear hown hgrow hnn O4 I6
      refine hK.out _ _ (KQ.out _ D7.out) (fun hH0 => ?_)
      clear hK K
      try simp only [Act.put, List.getElem_toArray, List.getElem_cons_succ, List.getElem_cons_zero, Array.toArray_toList, List.size_toArray, List.setIfInBounds_toArray, List.set_cons_zero, List.set_cons_succ]
      refine wpAnyH_ready (rs := [12]) (by kernel_rfl) (by simp) ?_
      refine AllReadyH.cons rfl (fun K hK => ?_) AllReadyH.nil
      clear hH0
      refine wp_append_own _ (.tmp 153) (.tmp 157) 53 rfl W.heap.size 55 i0 (.agg #[.int .i64 0, .int .i64 0, .string ⟨#[]⟩]) 3 32 Tryd.underlying53 hi0 hz0 hz1 hz2 rfl (by decide) v7 (0 + i + 1) ([] ++ xs ++ [.int .i64 (a1 : Int), .int .i64 (b2 : Int), .string D]) rfl O7.out ⟨g, oy, none⟩ r cr ys rfl hy (HY.out _ D7.out) hy1 (by unfold maxLen; omega) (by omega) D7.out.size ?_
      intro v8 X8 hown hgrow hnn
      have D8 : Hid (Below W.heap.size W X8) := D7.out.grown hgrow D7.out.size (fun k hk => (O7.out.lt k hk).1)
      have O8 : Hid (X8.ownsRow W.heap.size 55 3 v8 (i + 1 + r) (xs ++ [.int .i64 (a1 : Int), .int .i64 (b2 : Int), .string D] ++ ys)) := by
        have q := hown
        rw [Nat.zero_add, List.nil_append] at q
        exact q
      clear hown hgrow hnn O7
      refine hK.out _ _ (KQ.out _ D8.out) (fun hH0 => ?_)
      clear hK K
      try simp only [Act.put, List.getElem_toArray, List.getElem_cons_succ, List.getElem_cons_zero, Array.toArray_toList, List.size_toArray, List.setIfInBounds_toArray, List.set_cons_zero, List.set_cons_succ]
      refine tk (i := 13) (v := v8) rfl (by kernel_rfl) (fun _ _ _ h => h) (by kernel_rfl) ?_ hH0 ?_
      · intro V hS; obtain ⟨q1, q2, q3⟩ := hS; go_simp; try (first | omega | exact wrapN (by omega) | go_num)
      simp only [Act.put, List.getElem_toArray, List.getElem_cons_succ, List.getElem_cons_zero, Array.toArray_toList, List.size_toArray, List.setIfInBounds_toArray, List.set_cons_zero, List.set_cons_succ]
      refine wpAnyH_done (by kernel_rfl) ?_ _
      exact HQ.out _ _ _ _ _ _ _ _ _ _ _ _ _ _ _ D8.out O8.out
    · clear hH0
      go_simp
      have I6 : Hid (IHolds (X0.alloc (.cells #[.int .i64 (a1 : Int), .int .i64 (b2 : Int), .string D] 55)) X0.heap.size 55 [.int .i64 (a1 : Int), .int .i64 (b2 : Int), .string D]) := IHolds.new X0 55 [.int .i64 (a1 : Int), .int .i64 (b2 : Int), .string D]
      have E6 : Hid (Below W.heap.size W (X0.alloc (.cells #[.int .i64 (a1 : Int), .int .i64 (b2 : Int), .string D] 55))) := E0.out.trans ((nB X0 _).mono E0.out.size)
      have P0 : Hid ((X0.alloc (.cells #[.int .i64 (a1 : Int), .int .i64 (b2 : Int), .string D] 55)).ownsRow W.heap.size 55 3 (.slice (some ⟨g0, 0, none⟩) 0 0) 0 []) := row_keep O0.out (nB X0 _)
      have N6 : Hid (X0.heap.size ≠ g0) := fun q => by have := G0.out; omega
      clear O0 G0
      have L6 : Hid (X0.heap.size < (X0.alloc (.cells #[.int .i64 (a1 : Int), .int .i64 (b2 : Int), .string D] 55)).heap.size) := by show _ < _; simp
      generalize X0.alloc (.cells #[.int .i64 (a1 : Int), .int .i64 (b2 : Int), .string D] 55) = X6 at *
      generalize X0.heap.size = b6 at *
      refine hK.out _ _ (KQ.out _ E6.out) (fun hH0 => ?_)
      clear hK K
      try simp only [Act.put, List.getElem_toArray, List.getElem_cons_succ, List.getElem_cons_zero, Array.toArray_toList, List.size_toArray, List.setIfInBounds_toArray, List.set_cons_zero, List.set_cons_succ]
      have O0 : Hid _ := P0
      clear P0
      refine wpAnyH_ready (rs := [4]) (by kernel_rfl) (by simp) ?_
      refine AllReadyH.cons rfl (fun K hK => ?_) AllReadyH.nil
      clear hH0
      refine wp_append_own _ (.tmp 146) (.tmp 149) 53 rfl W.heap.size 55 i0 (.agg #[.int .i64 0, .int .i64 0, .string ⟨#[]⟩]) 3 32 Tryd.underlying53 hi0 hz0 hz1 hz2 rfl (by decide) (.slice (some ⟨g0, 0, none⟩) 0 0) 0 [] rfl O0.out ⟨g, 0, none⟩ i cap xs rfl hx (HX.out _ E6.out) hx1 (by unfold maxLen; omega) (by omega) E6.out.size ?_
      intro v4 X4 hown hgrow hnn
      have E4 : Hid (Below W.heap.size W X4) := E6.out.grown hgrow E6.out.size (fun k hk => (O0.out.lt k hk).1)
      have O4 : Hid (X4.ownsRow W.heap.size 55 3 v4 (0 + i) ([] ++ xs)) := hown
      have J6 : Hid (IHolds X4 b6 55 [.int .i64 (a1 : Int), .int .i64 (b2 : Int), .string D]) := (hgrow.block b6 I6.out.lt (fun q => by simp [Value.ownBlock] at q; exact N6.out q)).trans I6.out
      clear I6 N6
      clear hown hgrow hnn O0
      refine hK.out _ _ (KQ.out _ E4.out) (fun hH0 => ?_)
      clear hK K
      try simp only [Act.put, List.getElem_toArray, List.getElem_cons_succ, List.getElem_cons_zero, Array.toArray_toList, List.size_toArray, List.setIfInBounds_toArray, List.set_cons_zero, List.set_cons_succ]
      have I6 : Hid _ := J6
      clear J6
      refine wpAnyH_ready (rs := [7]) (by kernel_rfl) (by simp) ?_
      refine AllReadyH.cons rfl (fun K hK => ?_) AllReadyH.nil
      clear hH0
      refine wp_append_own _ (.tmp 150) (.tmp 152) 53 rfl W.heap.size 55 i0 (.agg #[.int .i64 0, .int .i64 0, .string ⟨#[]⟩]) 3 32 Tryd.underlying53 hi0 hz0 hz1 hz2 rfl (by decide) v4 (0 + i) ([] ++ xs) rfl O4.out ⟨b6, 0, none⟩ 1 1 [.int .i64 (a1 : Int), .int .i64 (b2 : Int), .string D] rfl rfl (I6.out.newsA) (fun u hu => by simp at hu; rcases hu with rfl | rfl | rfl <;> rfl) (by unfold maxLen; omega) (by omega) E4.out.size ?_
      intro v7 X7 hown hgrow hnn
      have D7 : Hid (Below W.heap.size W X7) := E4.out.grown hgrow E4.out.size (fun k hk => (O4.out.lt k hk).1)
      have O7 : Hid (X7.ownsRow W.heap.size 55 3 v7 (0 + i + 1) ([] ++ xs ++ [.int .i64 (a1 : Int), .int .i64 (b2 : Int), .string D])) := hown
      clear hown hgrow hnn O4 I6
      refine hK.out _ _ (KQ.out _ D7.out) (fun hH0 => ?_)
      clear hK K
      try simp only [Act.put, List.getElem_toArray, List.getElem_cons_succ, List.getElem_cons_zero, Array.toArray_toList, List.size_toArray, List.setIfInBounds_toArray, List.set_cons_zero, List.set_cons_succ]
      refine wpAnyH_ready (rs := [12]) (by kernel_rfl) (by simp) ?_
      refine AllReadyH.cons rfl (fun K hK => ?_) AllReadyH.nil
      clear hH0
      refine wp_append_own _ (.tmp 153) (.tmp 157) 53 rfl W.heap.size 55 i0 (.agg #[.int .i64 0, .int .i64 0, .string ⟨#[]⟩]) 3 32 Tryd.underlying53 hi0 hz0 hz1 hz2 rfl (by decide) v7 (0 + i + 1) ([] ++ xs ++ [.int .i64 (a1 : Int), .int .i64 (b2 : Int), .string D]) rfl O7.out ⟨g, oy, none⟩ r cr ys rfl hy (HY.out _ D7.out) hy1 (by unfold maxLen; omega) (by omega) D7.out.size ?_
      intro v8 X8 hown hgrow hnn
      have D8 : Hid (Below W.heap.size W X8) := D7.out.grown hgrow D7.out.size (fun k hk => (O7.out.lt k hk).1)
      have O8 : Hid (X8.ownsRow W.heap.size 55 3 v8 (i + 1 + r) (xs ++ [.int .i64 (a1 : Int), .int .i64 (b2 : Int), .string D] ++ ys)) := by
        have q := hown
        rw [Nat.zero_add, List.nil_append] at q
        exact q
      clear hown hgrow hnn O7
      refine hK.out _ _ (KQ.out _ D8.out) (fun hH0 => ?_)
      clear hK K
      try simp only [Act.put, List.getElem_toArray, List.getElem_cons_succ, List.getElem_cons_zero, Array.toArray_toList, List.size_toArray, List.setIfInBounds_toArray, List.set_cons_zero, List.set_cons_succ]
      refine tk (i := 13) (v := v8) rfl (by kernel_rfl) (fun _ _ _ h => h) (by kernel_rfl) ?_ hH0 ?_
      · intro V hS; obtain ⟨q1, q2, q3⟩ := hS; go_simp; try (first | omega | exact wrapN (by omega) | go_num)
      simp only [Act.put, List.getElem_toArray, List.getElem_cons_succ, List.getElem_cons_zero, Array.toArray_toList, List.size_toArray, List.setIfInBounds_toArray, List.set_cons_zero, List.set_cons_succ]
      refine wpAnyH_done (by kernel_rfl) ?_ _
      exact HQ.out _ _ _ _ _ _ _ _ _ _ _ _ _ _ _ D8.out O8.out
  · clear hH0
    go_simp
    have I6 : Hid (IHolds (v0.alloc (.cells #[.int .i64 (a1 : Int), .int .i64 (b2 : Int), .string D] 55)) v0.heap.size 55 [.int .i64 (a1 : Int), .int .i64 (b2 : Int), .string D]) := IHolds.new v0 55 [.int .i64 (a1 : Int), .int .i64 (b2 : Int), .string D]
    have E6 : Hid (Below W.heap.size W (v0.alloc (.cells #[.int .i64 (a1 : Int), .int .i64 (b2 : Int), .string D] 55))) := D0.out.trans ((nB v0 _).mono D0.out.size)
    have L6 : Hid (v0.heap.size < (v0.alloc (.cells #[.int .i64 (a1 : Int), .int .i64 (b2 : Int), .string D] 55)).heap.size) := by show _ < _; simp
    generalize v0.alloc (.cells #[.int .i64 (a1 : Int), .int .i64 (b2 : Int), .string D] 55) = X6 at *
    generalize v0.heap.size = b6 at *
    refine hK.out _ _ (KQ.out _ E6.out) (fun hH0 => ?_)
    clear hK K
    try simp only [Act.put, List.getElem_toArray, List.getElem_cons_succ, List.getElem_cons_zero, Array.toArray_toList, List.size_toArray, List.setIfInBounds_toArray, List.set_cons_zero, List.set_cons_succ]
    refine wpAnyH_ready (rs := [0]) (by kernel_rfl) (by simp) ?_
    refine AllReadyH.cons rfl (fun K hK => ?_) AllReadyH.nil
    clear hH0
    go_simp
    have O0 : Hid ((X6.alloc (.cells #[] 55)).ownsRow W.heap.size 55 3 (.slice (some ⟨X6.heap.size, 0, none⟩) 0 0) 0 []) := none_own E6.out.size
    have E0 : Hid (Below W.heap.size W (X6.alloc (.cells #[] 55))) := E6.out.trans ((nB X6 _).mono E6.out.size)
    have J6 : Hid (IHolds (X6.alloc (.cells #[] 55)) b6 55 [.int .i64 (a1 : Int), .int .i64 (b2 : Int), .string D]) := I6.out.of_below (nB X6 _)
    have N6 : Hid (b6 ≠ X6.heap.size) := fun q => by have := L6.out; omega
    clear I6 L6
    generalize hg0 : X6.heap.size = g0 at *
    have G0 : Hid (g0 < (X6.alloc (.cells #[] 55)).heap.size) := by show _ < _; rw [← hg0]; simp
    generalize X6.alloc (.cells #[] 55) = X0 at *
    clear hg0
    refine hK.out _ _ (KQ.out _ E0.out) (fun hH0 => ?_)
    clear hK K
    try simp only [Act.put, List.getElem_toArray, List.getElem_cons_succ, List.getElem_cons_zero, Array.toArray_toList, List.size_toArray, List.setIfInBounds_toArray, List.set_cons_zero, List.set_cons_succ]
    have I6 : Hid _ := J6
    clear J6
    refine wpAnyH_ready (rs := [4]) (by kernel_rfl) (by simp) ?_
    refine AllReadyH.cons rfl (fun K hK => ?_) AllReadyH.nil
    clear hH0
    refine wp_append_own _ (.tmp 146) (.tmp 149) 53 rfl W.heap.size 55 i0 (.agg #[.int .i64 0, .int .i64 0, .string ⟨#[]⟩]) 3 32 Tryd.underlying53 hi0 hz0 hz1 hz2 rfl (by decide) (.slice (some ⟨g0, 0, none⟩) 0 0) 0 [] rfl O0.out ⟨g, 0, none⟩ i cap xs rfl hx (HX.out _ E0.out) hx1 (by unfold maxLen; omega) (by omega) E0.out.size ?_
    intro v4 X4 hown hgrow hnn
    have E4 : Hid (Below W.heap.size W X4) := E0.out.grown hgrow E0.out.size (fun k hk => (O0.out.lt k hk).1)
    have O4 : Hid (X4.ownsRow W.heap.size 55 3 v4 (0 + i) ([] ++ xs)) := hown
    have J6 : Hid (IHolds X4 b6 55 [.int .i64 (a1 : Int), .int .i64 (b2 : Int), .string D]) := (hgrow.block b6 I6.out.lt (fun q => by simp [Value.ownBlock] at q; exact N6.out q)).trans I6.out
    clear I6 N6
    clear hown hgrow hnn O0
    refine hK.out _ _ (KQ.out _ E4.out) (fun hH0 => ?_)
    clear hK K
    try simp only [Act.put, List.getElem_toArray, List.getElem_cons_succ, List.getElem_cons_zero, Array.toArray_toList, List.size_toArray, List.setIfInBounds_toArray, List.set_cons_zero, List.set_cons_succ]
    have I6 : Hid _ := J6
    clear J6
    refine wpAnyH_ready (rs := [7]) (by kernel_rfl) (by simp) ?_
    refine AllReadyH.cons rfl (fun K hK => ?_) AllReadyH.nil
    clear hH0
    refine wp_append_own _ (.tmp 150) (.tmp 152) 53 rfl W.heap.size 55 i0 (.agg #[.int .i64 0, .int .i64 0, .string ⟨#[]⟩]) 3 32 Tryd.underlying53 hi0 hz0 hz1 hz2 rfl (by decide) v4 (0 + i) ([] ++ xs) rfl O4.out ⟨b6, 0, none⟩ 1 1 [.int .i64 (a1 : Int), .int .i64 (b2 : Int), .string D] rfl rfl (I6.out.newsA) (fun u hu => by simp at hu; rcases hu with rfl | rfl | rfl <;> rfl) (by unfold maxLen; omega) (by omega) E4.out.size ?_
    intro v7 X7 hown hgrow hnn
    have D7 : Hid (Below W.heap.size W X7) := E4.out.grown hgrow E4.out.size (fun k hk => (O4.out.lt k hk).1)
    have O7 : Hid (X7.ownsRow W.heap.size 55 3 v7 (0 + i + 1) ([] ++ xs ++ [.int .i64 (a1 : Int), .int .i64 (b2 : Int), .string D])) := hown
    clear hown hgrow hnn O4 I6
    refine hK.out _ _ (KQ.out _ D7.out) (fun hH0 => ?_)
    clear hK K
    try simp only [Act.put, List.getElem_toArray, List.getElem_cons_succ, List.getElem_cons_zero, Array.toArray_toList, List.size_toArray, List.setIfInBounds_toArray, List.set_cons_zero, List.set_cons_succ]
    refine wpAnyH_ready (rs := [12]) (by kernel_rfl) (by simp) ?_
    refine AllReadyH.cons rfl (fun K hK => ?_) AllReadyH.nil
    clear hH0
    refine wp_append_own _ (.tmp 153) (.tmp 157) 53 rfl W.heap.size 55 i0 (.agg #[.int .i64 0, .int .i64 0, .string ⟨#[]⟩]) 3 32 Tryd.underlying53 hi0 hz0 hz1 hz2 rfl (by decide) v7 (0 + i + 1) ([] ++ xs ++ [.int .i64 (a1 : Int), .int .i64 (b2 : Int), .string D]) rfl O7.out ⟨g, oy, none⟩ r cr ys rfl hy (HY.out _ D7.out) hy1 (by unfold maxLen; omega) (by omega) D7.out.size ?_
    intro v8 X8 hown hgrow hnn
    have D8 : Hid (Below W.heap.size W X8) := D7.out.grown hgrow D7.out.size (fun k hk => (O7.out.lt k hk).1)
    have O8 : Hid (X8.ownsRow W.heap.size 55 3 v8 (i + 1 + r) (xs ++ [.int .i64 (a1 : Int), .int .i64 (b2 : Int), .string D] ++ ys)) := by
      have q := hown
      rw [Nat.zero_add, List.nil_append] at q
      exact q
    clear hown hgrow hnn O7
    refine hK.out _ _ (KQ.out _ D8.out) (fun hH0 => ?_)
    clear hK K
    try simp only [Act.put, List.getElem_toArray, List.getElem_cons_succ, List.getElem_cons_zero, Array.toArray_toList, List.size_toArray, List.setIfInBounds_toArray, List.set_cons_zero, List.set_cons_succ]
    refine tk (i := 13) (v := v8) rfl (by kernel_rfl) (fun _ _ _ h => h) (by kernel_rfl) ?_ hH0 ?_
    · intro V hS; obtain ⟨q1, q2, q3⟩ := hS; go_simp; try (first | omega | exact wrapN (by omega) | go_num)
    simp only [Act.put, List.getElem_toArray, List.getElem_cons_succ, List.getElem_cons_zero, Array.toArray_toList, List.size_toArray, List.setIfInBounds_toArray, List.set_cons_zero, List.set_cons_succ]
    refine wpAnyH_done (by kernel_rfl) ?_ _
    exact HQ.out _ _ _ _ _ _ _ _ _ _ _ _ _ _ _ D8.out O8.out
end Go.Proofs.YteomefhjglnghaaDoor

/- Clash: the regions that hash. -/
set_option linter.unusedSimpArgs false
set_option linter.unusedVariables false
set_option maxRecDepth 100000
namespace Go.Proofs.YteomefhjglnghaaDoor
open Go.RowKit Go.Deep Go.PlainAid

theorem Ft_not {w0 V : World} {base Bt Bs Bd Bh Bo : Nat} {vt vd : Value} {TL : List ByteArray} {sm : Bool} (h : Sx w0 V base Bt Bs Bd Bh Bo vt vd TL sm) {k : Nat} {cs : Array Value} {t : TypeId} (hk : V.heap[k]? = some (.cells cs t)) (h1 : t ≠ 22) (h2 : t ≠ 4) (h3 : t ≠ 9) : ¬ Ft Bt Bs Bd vt vd k := by
  rintro (q | q | q | q | q)
  · subst q
    have e := hk.symm.trans (show V.heap[k]? = _ from h.1.t)
    simp at e
    exact h1 e.2
  · subst q
    have e := hk.symm.trans (show V.heap[k]? = _ from h.1.s)
    simp at e
    exact h2 e.2
  · subst q
    have e := hk.symm.trans (show V.heap[k]? = _ from h.1.d)
    simp at e
    exact h1 e.2
  · obtain ⟨_, ⟨rfl, _⟩ | ⟨g, cap, cur, rfl, _, hb, _⟩⟩ := h.1.rt
    · simp [Value.ownBlock] at q
    · have e1 : g = k := by simpa [Value.ownBlock] using q
      subst e1
      have e := hk.symm.trans hb
      simp at e
      exact h3 e.2
  · obtain ⟨_, ⟨rfl, _⟩ | ⟨g, cap, cur, rfl, _, hb, _⟩⟩ := h.1.rd
    · simp [Value.ownBlock] at q
    · have e1 : g = k := by simpa [Value.ownBlock] using q
      subst e1
      have e := hk.symm.trans hb
      simp at e
      exact h3 e.2
theorem row_obj {V : World} {b t s n : Nat} {v : Value} {xs : List Value} (h : V.ownsRow b t s v n xs) {k : Nat} (hk : v.ownBlock = some k) : ∃ cs, V.heap[k]? = some (.cells cs t) := by
  obtain ⟨_, ⟨rfl, _⟩ | ⟨g, cap, cur, rfl, _, hb, _⟩⟩ := h
  · simp [Value.ownBlock] at hk
  · have e1 : g = k := by simpa [Value.ownBlock] using hk
    subst e1
    exact ⟨cur, hb⟩
theorem Sx.rowK {w0 V V' : World} {base Bt Bs Bd Bh Bo : Nat} {vt vd : Value} {TL : List ByteArray} {sm : Bool} {F' : Nat → Prop} (h : Sx w0 V base Bt Bs Bd Bh Bo vt vd TL sm) (hk : Kp V V' (Ft Bt Bs Bd vt vd) F') {b t s n : Nat} {v : Value} {xs : List Value} (hr : V.ownsRow b t s v n xs) (h1 : t ≠ 22) (h2 : t ≠ 4) (h3 : t ≠ 9) : V'.ownsRow b t s v n xs :=
  row_same hr (fun k q => by
    obtain ⟨cs, hc⟩ := row_obj hr q
    exact (hk.keep k (hr.lt k q).2 (Ft_not h hc h1 h2 h3)).1)
theorem Sx.holdK {w0 V V' : World} {base Bt Bs Bd Bh Bo : Nat} {vt vd : Value} {TL : List ByteArray} {sm : Bool} {F' : Nat → Prop} (h : Sx w0 V base Bt Bs Bd Bh Bo vt vd TL sm) (hk : Kp V V' (Ft Bt Bs Bd vt vd) F') {B t : Nat} {l : List Value} (hI : IHolds V B t l) (h1 : t ≠ 22) (h2 : t ≠ 4) (h3 : t ≠ 9) : IHolds V' B t l :=
  (hk.keep B hI.lt (Ft_not h hI h1 h2 h3)).1.trans hI
theorem Sx.grown {w0 V V' : World} {base Bt Bs Bd Bh Bo : Nat} {vt vd : Value} {TL : List ByteArray} {sm : Bool} {row : Option Nat} (h : Sx w0 V base Bt Bs Bd Bh Bo vt vd TL sm) (hg : V.grownBy V' row) (hr : ∀ k, row = some k → base ≤ k ∧ ¬ Ft Bt Bs Bd vt vd k ∧ k ≠ Bh ∧ k ≠ Bo) : Sx w0 V' base Bt Bs Bd Bh Bo vt vd TL sm :=
  ⟨⟨Boxed.kept h.1.t hg (fun q => (hr Bt q.symm).2.1 (Or.inl rfl)), Boxed.kept h.1.s hg (fun q => (hr Bs q.symm).2.1 (Or.inr (Or.inl rfl))), Boxed.kept h.1.d hg (fun q => (hr Bd q.symm).2.1 (Or.inr (Or.inr (Or.inl rfl)))),
    row_same h.1.rt (fun k q => hg.block k (h.1.rt.lt k q).2 (fun e => (hr k e.symm).2.1 (Or.inr (Or.inr (Or.inr (Or.inl q)))))), row_same h.1.rd (fun k q => hg.block k (h.1.rd.lt k q).2 (fun e => (hr k e.symm).2.1 (Or.inr (Or.inr (Or.inr (Or.inr q)))))), h.1.ne, h.1.cl⟩,
   h.2.1.grown hg h.2.2.1 (fun k q => (hr k q).1), Nat.le_trans h.2.2.1 hg.size, Boxed.kept h.2.2.2.1 hg (fun q => (hr Bh q.symm).2.2.1 rfl), Boxed.kept h.2.2.2.2 hg (fun q => (hr Bo q.symm).2.2.2 rfl)⟩
theorem Sx.set {w0 V : World} {base Bt Bs Bd Bh Bo : Nat} {vt vd : Value} {TL : List ByteArray} {sm : Bool} (h : Sx w0 V base Bt Bs Bd Bh Bo vt vd TL sm) {p : Addr} (x : Value) (hn : ¬ Ft Bt Bs Bd vt vd p.block) (h1 : p.block ≠ Bh) (h2 : p.block ≠ Bo) (hb : base ≤ p.block) : Sx w0 (V.setCell p x) base Bt Bs Bd Bh Bo vt vd TL sm :=
  ⟨⟨(Below.heap_setCell _ _ _ _ (fun q => hn (Or.inl q.symm))).trans h.1.t, (Below.heap_setCell _ _ _ _ (fun q => hn (Or.inr (Or.inl q.symm)))).trans h.1.s, (Below.heap_setCell _ _ _ _ (fun q => hn (Or.inr (Or.inr (Or.inl q.symm))))).trans h.1.d,
    row_same h.1.rt (fun k q => Below.heap_setCell _ _ _ _ (fun e => hn (by rw [← e]; exact Or.inr (Or.inr (Or.inr (Or.inl q)))))), row_same h.1.rd (fun k q => Below.heap_setCell _ _ _ _ (fun e => hn (by rw [← e]; exact Or.inr (Or.inr (Or.inr (Or.inr q)))))), h.1.ne, h.1.cl⟩,
   h.2.1.setCell hb _, by have := h.2.2.1; simpa using this, (Below.heap_setCell _ _ _ _ (fun q => h1 q.symm)).trans h.2.2.2.1, (Below.heap_setCell _ _ _ _ (fun q => h2 q.symm)).trans h.2.2.2.2⟩
section
variable {P : Program}
theorem wp_append_own_at' {w : World} {o : Oper} {a : Act} {K : Act → World → Prop} {Q : Exit → Act → World → Prop} (s x : Operand) (t : TypeId)
    (ho : o.op = .call { callee := .builtin .append, args := #[s, x], argTypes := #[t, t] })
    (base : Nat) (e : TypeId) (i : TypeInfo) (z : Value) (size bytes : Nat) (ht : P.underlying t = some (.slice e)) (hi : P.info? e = some i) (hz : i.zero = some z)
    (hsize : i.size = size) (hby : i.bytes = bytes) (hzs : z.cells.size = size) (hsz : 0 < size)
    (v : Value) (n : Nat) (xs : List Value) (hs : a.eval s = v) (hown : w.ownsRow base e size v n xs)
    (ad : Addr) (m c : Nat) (news : List Value) (hx : a.eval x = .slice (some ad) m c) (hl : news.length = m * size) (hnews : ∀ j u, news[j]? = some u → w.cell? (ad.add j) = some u) (h1 : ∀ u ∈ news, u.oneCell' = true)
    (h63 : n + m ≤ maxLen) (hbytes : (n + m) * bytes ≤ 140737488355328) (hbase : base ≤ w.heap.size)
    (h : ∀ v' w', w'.ownsRow base e size v' (n + m) (xs ++ news) → w.grownBy w' v.ownBlock → (v'.ownBlock = v.ownBlock ∨ v'.ownBlock = some w.heap.size) → K (a.put o.dst v') w') : o.wp P a w K Q := by
  obtain ⟨v', w', hr, h2, h3, h4, h5⟩ := run_append_own_at (P := P) w base t o.type e i z size bytes ht hi hz hsize hby hzs hsz v n xs hown ad m c news hl hnews h1 h63 hbytes hbase
  unfold Oper.wp execOp
  simp only [ho, resolve, invoke, builtin, Sem.run_bind, Sem.run_pure, Result.andThen_ok, List.map_toArray, List.map_cons, List.map_nil, hs, hx, hr]
  exact h v' w' h2 h3 h5
end
def r10 : Code := .region 10 #[{ dst := some 46, op := Go.Op.move (Go.Operand.tmp 20), type := 22, pos := "ref.go:206", after := #[], guard := none }, { dst := some 47, op := Go.Op.load 38 (Go.Operand.tmp 19), type := 38, pos := "ref.go:206", after := #[], guard := none }, { dst := some 48, op := Go.Op.move (Go.Operand.tmp 0), type := 22, pos := "ref.go:206", after := #[], guard := none }, { dst := some 49, op := Go.Op.fieldAddr 37 (Go.Operand.tmp 22) 0, type := 0, pos := "ref.go:206", after := #[], guard := none }, { dst := some 50, op := Go.Op.load 3 (Go.Operand.tmp 49), type := 3, pos := "ref.go:206", after := #[{ on := 3, ground := Go.Ground.data }], guard := none }, { dst := some 51, op := Go.Op.fieldAddr 37 (Go.Operand.tmp 22) 1, type := 0, pos := "ref.go:206", after := #[], guard := none }, { dst := some 52, op := Go.Op.load 3 (Go.Operand.tmp 51), type := 3, pos := "ref.go:206", after := #[{ on := 5, ground := Go.Ground.data }], guard := none }, { dst := some 53, op := Go.Op.slice 22 (Go.Operand.tmp 48) (some (Go.Operand.tmp 50)) (some (Go.Operand.tmp 52)) none, type := 22, pos := "ref.go:206", after := #[{ on := 2, ground := Go.Ground.data }, { on := 4, ground := Go.Ground.data }, { on := 6, ground := Go.Ground.data }], guard := none }, { dst := some 54, op := Go.Op.call { callee := Go.Callee.value (Go.Operand.tmp 47), args := #[Go.Operand.tmp 53], argTypes := #[22] }, type := 9, pos := "ref.go:206", after := #[{ on := 1, ground := Go.Ground.data }, { on := 7, ground := Go.Ground.data }], guard := none }, { dst := some 55, op := Go.Op.buildSlice 22 1 #[(0, Go.Operand.tmp 54)], type := 22, pos := "ref.go:206", after := #[{ on := 8, ground := Go.Ground.data }], guard := none }, { dst := some 56, op := Go.Op.call { callee := Go.Callee.builtin Go.Builtin.append, args := #[Go.Operand.tmp 46, Go.Operand.tmp 55], argTypes := #[22, 22] }, type := 22, pos := "ref.go:206", after := #[{ on := 0, ground := Go.Ground.data }, { on := 9, ground := Go.Ground.data }, { on := 8, ground := Go.Ground.chain }], guard := none }, { dst := some 20, op := Go.Op.assign (Go.Operand.tmp 56), type := 22, pos := "ref.go:206", after := #[{ on := 10, ground := Go.Ground.data }, { on := 10, ground := Go.Ground.chain }, { on := 0, ground := Go.Ground.phase }, { on := 1, ground := Go.Ground.phase }, { on := 2, ground := Go.Ground.phase }, { on := 3, ground := Go.Ground.phase }, { on := 4, ground := Go.Ground.phase }, { on := 5, ground := Go.Ground.phase }, { on := 6, ground := Go.Ground.phase }, { on := 7, ground := Go.Ground.phase }, { on := 8, ground := Go.Ground.phase }, { on := 9, ground := Go.Ground.phase }, { on := 10, ground := Go.Ground.phase }], guard := none }] true
def r28 : Code := .region 28 #[{ dst := some 117, op := Go.Op.move (Go.Operand.tmp 25), type := 53, pos := "ref.go:222", after := #[], guard := none }, { dst := some 118, op := Go.Op.move (Go.Operand.tmp 28), type := 3, pos := "ref.go:222", after := #[], guard := none }, { dst := some 119, op := Go.Op.indexAddr 53 (Go.Operand.tmp 117) (Go.Operand.tmp 118), type := 0, pos := "ref.go:222", after := #[{ on := 0, ground := Go.Ground.data }, { on := 1, ground := Go.Ground.data }], guard := none }, { dst := some 120, op := Go.Op.fieldAddr 55 (Go.Operand.tmp 119) 0, type := 0, pos := "ref.go:222", after := #[{ on := 2, ground := Go.Ground.data }], guard := none }, { dst := some 121, op := Go.Op.fieldAddr 37 (Go.Operand.tmp 120) 0, type := 0, pos := "ref.go:222", after := #[{ on := 3, ground := Go.Ground.data }], guard := none }, { dst := some 122, op := Go.Op.load 3 (Go.Operand.tmp 121), type := 3, pos := "ref.go:222", after := #[{ on := 4, ground := Go.Ground.data }], guard := none }, { dst := some 123, op := Go.Op.move (Go.Operand.tmp 25), type := 53, pos := "ref.go:222", after := #[], guard := none }, { dst := some 124, op := Go.Op.move (Go.Operand.tmp 28), type := 3, pos := "ref.go:222", after := #[], guard := none }, { dst := some 125, op := Go.Op.binOp Go.BinOp.add 3 (Go.Operand.tmp 124) (Go.Operand.const (Go.Value.int Go.IntKind.i64 1)) 3, type := 3, pos := "ref.go:222", after := #[{ on := 7, ground := Go.Ground.data }], guard := none }, { dst := some 126, op := Go.Op.indexAddr 53 (Go.Operand.tmp 123) (Go.Operand.tmp 125), type := 0, pos := "ref.go:222", after := #[{ on := 6, ground := Go.Ground.data }, { on := 8, ground := Go.Ground.data }], guard := none }, { dst := some 127, op := Go.Op.fieldAddr 55 (Go.Operand.tmp 126) 0, type := 0, pos := "ref.go:222", after := #[{ on := 9, ground := Go.Ground.data }], guard := none }, { dst := some 128, op := Go.Op.fieldAddr 37 (Go.Operand.tmp 127) 1, type := 0, pos := "ref.go:222", after := #[{ on := 10, ground := Go.Ground.data }], guard := none }, { dst := some 129, op := Go.Op.load 3 (Go.Operand.tmp 128), type := 3, pos := "ref.go:222", after := #[{ on := 11, ground := Go.Ground.data }], guard := none }, { dst := some 130, op := Go.Op.build 37 #[(0, Go.Operand.tmp 122), (1, Go.Operand.tmp 129)], type := 37, pos := "ref.go:222", after := #[{ on := 5, ground := Go.Ground.data }, { on := 12, ground := Go.Ground.data }], guard := none }, { dst := some 131, op := Go.Op.load 48 (Go.Operand.tmp 18), type := 48, pos := "ref.go:222", after := #[], guard := none }, { dst := some 132, op := Go.Op.move (Go.Operand.tmp 25), type := 53, pos := "ref.go:222", after := #[], guard := none }, { dst := some 133, op := Go.Op.move (Go.Operand.tmp 28), type := 3, pos := "ref.go:222", after := #[], guard := none }, { dst := some 134, op := Go.Op.indexAddr 53 (Go.Operand.tmp 132) (Go.Operand.tmp 133), type := 0, pos := "ref.go:222", after := #[{ on := 15, ground := Go.Ground.data }, { on := 16, ground := Go.Ground.data }], guard := none }, { dst := some 135, op := Go.Op.fieldAddr 55 (Go.Operand.tmp 134) 1, type := 0, pos := "ref.go:222", after := #[{ on := 17, ground := Go.Ground.data }], guard := none }, { dst := some 136, op := Go.Op.load 9 (Go.Operand.tmp 135), type := 9, pos := "ref.go:222", after := #[{ on := 18, ground := Go.Ground.data }], guard := none }, { dst := some 137, op := Go.Op.move (Go.Operand.tmp 25), type := 53, pos := "ref.go:222", after := #[], guard := none }, { dst := some 138, op := Go.Op.move (Go.Operand.tmp 28), type := 3, pos := "ref.go:222", after := #[], guard := none }, { dst := some 139, op := Go.Op.binOp Go.BinOp.add 3 (Go.Operand.tmp 138) (Go.Operand.const (Go.Value.int Go.IntKind.i64 1)) 3, type := 3, pos := "ref.go:222", after := #[{ on := 21, ground := Go.Ground.data }], guard := none }, { dst := some 140, op := Go.Op.indexAddr 53 (Go.Operand.tmp 137) (Go.Operand.tmp 139), type := 0, pos := "ref.go:222", after := #[{ on := 20, ground := Go.Ground.data }, { on := 22, ground := Go.Ground.data }], guard := none }, { dst := some 141, op := Go.Op.fieldAddr 55 (Go.Operand.tmp 140) 1, type := 0, pos := "ref.go:222", after := #[{ on := 23, ground := Go.Ground.data }], guard := none }, { dst := some 142, op := Go.Op.load 9 (Go.Operand.tmp 141), type := 9, pos := "ref.go:222", after := #[{ on := 24, ground := Go.Ground.data }], guard := none }, { dst := some 143, op := Go.Op.buildSlice 22 2 #[(0, Go.Operand.tmp 136), (1, Go.Operand.tmp 142)], type := 22, pos := "ref.go:222", after := #[{ on := 19, ground := Go.Ground.data }, { on := 25, ground := Go.Ground.data }], guard := none }, { dst := some 144, op := Go.Op.call { callee := Go.Callee.value (Go.Operand.tmp 131), args := #[Go.Operand.const (Go.Value.string { data := #[98, 108, 111, 99, 107] }), Go.Operand.tmp 143], argTypes := #[9, 22] }, type := 9, pos := "ref.go:222", after := #[{ on := 14, ground := Go.Ground.data }, { on := 26, ground := Go.Ground.data }], guard := none }, { dst := some 145, op := Go.Op.build 55 #[(0, Go.Operand.tmp 130), (1, Go.Operand.tmp 144)], type := 55, pos := "ref.go:222", after := #[{ on := 13, ground := Go.Ground.data }, { on := 27, ground := Go.Ground.data }], guard := none }, { dst := some 29, op := Go.Op.alloc 55, type := 0, pos := "ref.go:222", after := #[], guard := none }, { dst := none, op := Go.Op.store 55 (Go.Operand.tmp 29) (Go.Operand.tmp 145), type := 0, pos := "ref.go:222", after := #[{ on := 29, ground := Go.Ground.data }, { on := 28, ground := Go.Ground.data }, { on := 27, ground := Go.Ground.chain }, { on := 0, ground := Go.Ground.phase }, { on := 1, ground := Go.Ground.phase }, { on := 2, ground := Go.Ground.phase }, { on := 3, ground := Go.Ground.phase }, { on := 4, ground := Go.Ground.phase }, { on := 5, ground := Go.Ground.phase }, { on := 6, ground := Go.Ground.phase }, { on := 7, ground := Go.Ground.phase }, { on := 8, ground := Go.Ground.phase }, { on := 9, ground := Go.Ground.phase }, { on := 10, ground := Go.Ground.phase }, { on := 11, ground := Go.Ground.phase }, { on := 12, ground := Go.Ground.phase }, { on := 13, ground := Go.Ground.phase }, { on := 14, ground := Go.Ground.phase }, { on := 15, ground := Go.Ground.phase }, { on := 16, ground := Go.Ground.phase }, { on := 17, ground := Go.Ground.phase }, { on := 18, ground := Go.Ground.phase }, { on := 19, ground := Go.Ground.phase }, { on := 20, ground := Go.Ground.phase }, { on := 21, ground := Go.Ground.phase }, { on := 22, ground := Go.Ground.phase }, { on := 23, ground := Go.Ground.phase }, { on := 24, ground := Go.Ground.phase }, { on := 25, ground := Go.Ground.phase }, { on := 26, ground := Go.Ground.phase }, { on := 27, ground := Go.Ground.phase }, { on := 28, ground := Go.Ground.phase }, { on := 29, ground := Go.Ground.phase }], guard := none }] true
set_option maxHeartbeats 4000000 in
theorem r10_top {w0 W : World} {base Bt Bs Bd Bh Bo Bsp bE oE nE cE p1 p2 m n : Nat} {vt vd v20 : Value} {TL T1 : List ByteArray} {sm : Bool} {xs : List Value} {D : ByteArray} {R : Act → World → Prop} {t1 t2 t3 t4 t5 t6 t7 t8 t9 t10 t11 t12 t13 t14 t15 t16 t17 t18 t21 t23 t24 t25 t26 t27 t28 t29 t30 t31 t32 t33 t34 t35 t36 t37 t38 t39 t40 t41 t42 t43 t44 t45 t46 t47 t48 t49 t50 t51 t52 t53 t54 t55 t56 t57 t58 t59 t60 t61 t62 t63 t64 t65 t66 t67 t68 t69 t70 t71 t72 t73 t74 t75 t76 t77 t78 t79 t80 t81 t82 t83 t84 t85 t86 t87 t88 t89 t90 t91 t92 t93 t94 t95 t96 t97 t98 t99 t100 t101 t102 t103 t104 t105 t106 t107 t108 t109 t110 t111 t112 t113 t114 t115 t116 t117 t118 t119 t120 t121 t122 t123 t124 t125 t126 t127 t128 t129 t130 t131 t132 t133 t134 t135 t136 t137 t138 t139 t140 t141 t142 t143 t144 t145 t146 t147 t148 t149 t150 t151 t152 t153 t154 t155 t156 t157 t158 t159 t160 t161 t162 t163 t164 t165 t166 t167 t168 t169 t170 t171 t172 t173 t174 t175 t176 t177 : Value} (E : En base Bt Bs Bd Bh Bo)
    (k1 : (p1 : Int) ≤ (p2 : Int)) (k2 : (p2 : Int) ≤ (cE : Int)) (k3 : ¬ cE = p1) (k4 : p2 - p1 = m) (hn : n ≤ 4194304)
    (h : Sx w0 W base Bt Bs Bd Bh Bo vt vd TL sm) (hrow : W.ownsRow base 9 1 v20 n xs) (NR : ∀ k, v20.ownBlock = some k → ¬ Ft Bt Bs Bd vt vd k) (I : IHolds W Bsp 37 [.int .i64 (p1 : Int), .int .i64 (p2 : Int)])
    (C : ∀ V, Sx w0 V base Bt Bs Bd Bh Bo vt vd TL sm → Calls Tryd.prog 19 #[.slice (some ⟨bE, oE + p1, none⟩) m (cE - p1), .pointer (some ⟨Bh, 0, none⟩), .pointer (some ⟨Bo, 0, none⟩)] V fun e V' => e = .returned (.string D) ∧ XP w0 V V' base Bt Bs Bd Bh Bo vt vd (TL ++ T1))
    (hQ : ∀ V v' vt' vd' sm' u46 u47 u48 u49 u50 u51 u52 u53 u54 u55 u56, Sx w0 V base Bt Bs Bd Bh Bo vt' vd' (TL ++ T1) sm' → V.ownsRow base 9 1 v' (n + 1) (xs ++ [.string D]) → (∀ k, v'.ownBlock = some k → ¬ Ft Bt Bs Bd vt' vd' k) → (∀ t s vv m ys, t ≠ 22 → t ≠ 4 → t ≠ 9 → W.ownsRow base t s vv m ys → V.ownsRow base t s vv m ys) → R ⟨#[.slice (some ⟨bE, oE, none⟩) nE cE, t1, t2, t3, t4, t5, t6, t7, t8, t9, t10, t11, t12, t13, t14, t15, t16, t17, t18, .pointer (some ⟨Bo, 0, none⟩), v', t21, .pointer (some ⟨Bsp, 0, none⟩), t23, t24, t25, t26, t27, t28, t29, t30, t31, t32, t33, t34, t35, t36, t37, t38, t39, t40, t41, t42, t43, t44, t45, u46, u47, u48, u49, u50, u51, u52, u53, u54, u55, u56, t57, t58, t59, t60, t61, t62, t63, t64, t65, t66, t67, t68, t69, t70, t71, t72, t73, t74, t75, t76, t77, t78, t79, t80, t81, t82, t83, t84, t85, t86, t87, t88, t89, t90, t91, t92, t93, t94, t95, t96, t97, t98, t99, t100, t101, t102, t103, t104, t105, t106, t107, t108, t109, t110, t111, t112, t113, t114, t115, t116, t117, t118, t119, t120, t121, t122, t123, t124, t125, t126, t127, t128, t129, t130, t131, t132, t133, t134, t135, t136, t137, t138, t139, t140, t141, t142, t143, t144, t145, t146, t147, t148, t149, t150, t151, t152, t153, t154, t155, t156, t157, t158, t159, t160, t161, t162, t163, t164, t165, t166, t167, t168, t169, t170, t171, t172, t173, t174, t175, t176, t177], []⟩ V) :
    r10.wp Tryd.prog (fun e aa ww => match e with | .normal => R aa ww | _ => False) ⟨#[.slice (some ⟨bE, oE, none⟩) nE cE, t1, t2, t3, t4, t5, t6, t7, t8, t9, t10, t11, t12, t13, t14, t15, t16, t17, t18, .pointer (some ⟨Bo, 0, none⟩), v20, t21, .pointer (some ⟨Bsp, 0, none⟩), t23, t24, t25, t26, t27, t28, t29, t30, t31, t32, t33, t34, t35, t36, t37, t38, t39, t40, t41, t42, t43, t44, t45, t46, t47, t48, t49, t50, t51, t52, t53, t54, t55, t56, t57, t58, t59, t60, t61, t62, t63, t64, t65, t66, t67, t68, t69, t70, t71, t72, t73, t74, t75, t76, t77, t78, t79, t80, t81, t82, t83, t84, t85, t86, t87, t88, t89, t90, t91, t92, t93, t94, t95, t96, t97, t98, t99, t100, t101, t102, t103, t104, t105, t106, t107, t108, t109, t110, t111, t112, t113, t114, t115, t116, t117, t118, t119, t120, t121, t122, t123, t124, t125, t126, t127, t128, t129, t130, t131, t132, t133, t134, t135, t136, t137, t138, t139, t140, t141, t142, t143, t144, t145, t146, t147, t148, t149, t150, t151, t152, t153, t154, t155, t156, t157, t158, t159, t160, t161, t162, t163, t164, t165, t166, t167, t168, t169, t170, t171, t172, t173, t174, t175, t176, t177], []⟩ W := by
  have HQ : Hid (∀ V v' vt' vd' sm' u46 u47 u48 u49 u50 u51 u52 u53 u54 u55 u56, Sx w0 V base Bt Bs Bd Bh Bo vt' vd' (TL ++ T1) sm' → V.ownsRow base 9 1 v' (n + 1) (xs ++ [.string D]) → (∀ k, v'.ownBlock = some k → ¬ Ft Bt Bs Bd vt' vd' k) → (∀ t s vv m ys, t ≠ 22 → t ≠ 4 → t ≠ 9 → W.ownsRow base t s vv m ys → V.ownsRow base t s vv m ys) → R ⟨#[.slice (some ⟨bE, oE, none⟩) nE cE, t1, t2, t3, t4, t5, t6, t7, t8, t9, t10, t11, t12, t13, t14, t15, t16, t17, t18, .pointer (some ⟨Bo, 0, none⟩), v', t21, .pointer (some ⟨Bsp, 0, none⟩), t23, t24, t25, t26, t27, t28, t29, t30, t31, t32, t33, t34, t35, t36, t37, t38, t39, t40, t41, t42, t43, t44, t45, u46, u47, u48, u49, u50, u51, u52, u53, u54, u55, u56, t57, t58, t59, t60, t61, t62, t63, t64, t65, t66, t67, t68, t69, t70, t71, t72, t73, t74, t75, t76, t77, t78, t79, t80, t81, t82, t83, t84, t85, t86, t87, t88, t89, t90, t91, t92, t93, t94, t95, t96, t97, t98, t99, t100, t101, t102, t103, t104, t105, t106, t107, t108, t109, t110, t111, t112, t113, t114, t115, t116, t117, t118, t119, t120, t121, t122, t123, t124, t125, t126, t127, t128, t129, t130, t131, t132, t133, t134, t135, t136, t137, t138, t139, t140, t141, t142, t143, t144, t145, t146, t147, t148, t149, t150, t151, t152, t153, t154, t155, t156, t157, t158, t159, t160, t161, t162, t163, t164, t165, t166, t167, t168, t169, t170, t171, t172, t173, t174, t175, t176, t177], []⟩ V) := hQ
  have HC : Hid (∀ V, Sx w0 V base Bt Bs Bd Bh Bo vt vd TL sm → Calls Tryd.prog 19 #[.slice (some ⟨bE, oE + p1, none⟩) m (cE - p1), .pointer (some ⟨Bh, 0, none⟩), .pointer (some ⟨Bo, 0, none⟩)] V fun e V' => e = .returned (.string D) ∧ XP w0 V V' base Bt Bs Bd Bh Bo vt vd (TL ++ T1)) := C
  have KQ : Hid (∀ V, Boxed V Bo 38 (.func (.func 19) #[] #[.pointer (some ⟨Bh, 0, none⟩), .pointer (some ⟨Bo, 0, none⟩)]) → IHolds V Bsp 37 [.int .i64 (p1 : Int), .int .i64 (p2 : Int)] → (V.cell? ⟨Bo, 0, none⟩ = some (.func (.func 19) #[] #[.pointer (some ⟨Bh, 0, none⟩), .pointer (some ⟨Bo, 0, none⟩)]) ∧ V.cell? ⟨Bsp, 0, none⟩ = some (.int .i64 (p1 : Int)) ∧ V.cell? ⟨Bsp, 1, none⟩ = some (.int .i64 (p2 : Int)))) := fun V g1 g2 => ⟨Boxed.cell g1, g2.cell 0 (by simp), g2.cell 1 (by simp)⟩
  have hd : Below W.heap.size W W.drew := (Below.refl _ W).drew
  have S0 : Hid (Sx w0 W.drew base Bt Bs Bd Bh Bo vt vd TL sm) := h.below hd
  have R0 : Hid (W.drew.ownsRow base 9 1 v20 n xs) := row_keep hrow hd
  have I0 : Hid (IHolds W.drew Bsp 37 [.int .i64 (p1 : Int), .int .i64 (p2 : Int)]) := I.of_below hd
  have OR0 : Hid (∀ t s vv m ys, W.ownsRow base t s vv m ys → W.drew.ownsRow base t s vv m ys) := fun t s vv m ys q => row_keep q hd
  have NR0 : Hid (∀ k, v20.ownBlock = some k → ¬ Ft Bt Bs Bd vt vd k) := NR
  obtain ⟨i0, hi0, hz0, hz1, hz2⟩ := info_parts info9
  clear hQ C h hrow NR I hd
  unfold r10
  refine wp_region_held_drew (S := fun V => V.cell? ⟨Bo, 0, none⟩ = some (.func (.func 19) #[] #[.pointer (some ⟨Bh, 0, none⟩), .pointer (some ⟨Bo, 0, none⟩)]) ∧ V.cell? ⟨Bsp, 0, none⟩ = some (.int .i64 (p1 : Int)) ∧ V.cell? ⟨Bsp, 1, none⟩ = some (.int .i64 (p2 : Int))) (by kernel_rfl) (KQ.out _ S0.out.2.2.2.2 I0.out) (fun hH0 => ?_)
  generalize W.drew = v0 at *
  refine tk (i := 0) (v := v20) rfl (by kernel_rfl) (fun _ _ _ h => h) (by kernel_rfl) ?_ hH0 ?_
  · intro V hS; obtain ⟨q1, q2, q3⟩ := hS; go_simp; try (first | omega | exact wrapN (by omega) | go_num)
  simp only [Act.put, List.getElem_toArray, List.getElem_cons_succ, List.getElem_cons_zero, Array.toArray_toList, List.size_toArray, List.setIfInBounds_toArray, List.set_cons_zero, List.set_cons_succ]
  refine tk (i := 1) (v := .func (.func 19) #[] #[.pointer (some ⟨Bh, 0, none⟩), .pointer (some ⟨Bo, 0, none⟩)]) rfl (by kernel_rfl) (fun _ _ _ h => h) (by kernel_rfl) ?_ hH0 ?_
  · intro V hS; obtain ⟨q1, q2, q3⟩ := hS; go_simp; try (first | omega | exact wrapN (by omega) | go_num)
  simp only [Act.put, List.getElem_toArray, List.getElem_cons_succ, List.getElem_cons_zero, Array.toArray_toList, List.size_toArray, List.setIfInBounds_toArray, List.set_cons_zero, List.set_cons_succ]
  refine tk (i := 2) (v := .slice (some ⟨bE, oE, none⟩) nE cE) rfl (by kernel_rfl) (fun _ _ _ h => h) (by kernel_rfl) ?_ hH0 ?_
  · intro V hS; obtain ⟨q1, q2, q3⟩ := hS; go_simp; try (first | omega | exact wrapN (by omega) | go_num)
  simp only [Act.put, List.getElem_toArray, List.getElem_cons_succ, List.getElem_cons_zero, Array.toArray_toList, List.size_toArray, List.setIfInBounds_toArray, List.set_cons_zero, List.set_cons_succ]
  refine tk (i := 3) (v := .pointer (some ⟨Bsp, 0, none⟩)) rfl (by kernel_rfl) (fun _ _ _ h => h) (by kernel_rfl) ?_ hH0 ?_
  · intro V hS; obtain ⟨q1, q2, q3⟩ := hS; go_simp; try (first | omega | exact wrapN (by omega) | go_num)
  simp only [Act.put, List.getElem_toArray, List.getElem_cons_succ, List.getElem_cons_zero, Array.toArray_toList, List.size_toArray, List.setIfInBounds_toArray, List.set_cons_zero, List.set_cons_succ]
  refine tk (i := 4) (v := .int .i64 (p1 : Int)) rfl (by kernel_rfl) (fun _ _ _ h => h) (by kernel_rfl) ?_ hH0 ?_
  · intro V hS; obtain ⟨q1, q2, q3⟩ := hS; go_simp; try (first | omega | exact wrapN (by omega) | go_num)
  simp only [Act.put, List.getElem_toArray, List.getElem_cons_succ, List.getElem_cons_zero, Array.toArray_toList, List.size_toArray, List.setIfInBounds_toArray, List.set_cons_zero, List.set_cons_succ]
  refine tk (i := 5) (v := .pointer (some ⟨Bsp, 1, none⟩)) rfl (by kernel_rfl) (fun _ _ _ h => h) (by kernel_rfl) ?_ hH0 ?_
  · intro V hS; obtain ⟨q1, q2, q3⟩ := hS; go_simp; try (first | omega | exact wrapN (by omega) | go_num)
  simp only [Act.put, List.getElem_toArray, List.getElem_cons_succ, List.getElem_cons_zero, Array.toArray_toList, List.size_toArray, List.setIfInBounds_toArray, List.set_cons_zero, List.set_cons_succ]
  refine tk (i := 6) (v := .int .i64 (p2 : Int)) rfl (by kernel_rfl) (fun _ _ _ h => h) (by kernel_rfl) ?_ hH0 ?_
  · intro V hS; obtain ⟨q1, q2, q3⟩ := hS; go_simp; try (first | omega | exact wrapN (by omega) | go_num)
  simp only [Act.put, List.getElem_toArray, List.getElem_cons_succ, List.getElem_cons_zero, Array.toArray_toList, List.size_toArray, List.setIfInBounds_toArray, List.set_cons_zero, List.set_cons_succ]
  refine tk (i := 7) (v := .slice (some ⟨bE, oE + p1, none⟩) m (cE - p1)) rfl (by kernel_rfl) (fun _ _ _ h => h) (by kernel_rfl) ?_ hH0 ?_
  · intro V hS; obtain ⟨q1, q2, q3⟩ := hS; go_simp; try (first | omega | exact wrapN (by omega) | go_num)
  simp only [Act.put, List.getElem_toArray, List.getElem_cons_succ, List.getElem_cons_zero, Array.toArray_toList, List.size_toArray, List.setIfInBounds_toArray, List.set_cons_zero, List.set_cons_succ]
  refine wpAnyH_ready (rs := [8]) (by kernel_rfl) (by simp) ?_
  refine AllReadyH.cons rfl (fun K hK => ?_) AllReadyH.nil
  clear hH0
  go_simp
  refine (HC.out _ S0.out).mono ?_
  rintro e v1 ⟨rfl, vt1, vd1, sm1, hS, hK1⟩
  have S1 : Hid (Sx w0 v1 base Bt Bs Bd Bh Bo vt1 vd1 (TL ++ T1) sm1) := hS
  have I1 : Hid (IHolds v1 Bsp 37 [.int .i64 (p1 : Int), .int .i64 (p2 : Int)]) := S0.out.holdK hK1 I0.out (by decide) (by decide) (by decide)
  have R1 : Hid (v1.ownsRow base 9 1 v20 n xs) := row_same R0.out (fun k q => (hK1.keep k (R0.out.lt k q).2 (NR0.out k q)).1)
  have NR1 : Hid (∀ k, v20.ownBlock = some k → ¬ Ft Bt Bs Bd vt1 vd1 k) := fun k q => (hK1.keep k (R0.out.lt k q).2 (NR0.out k q)).2
  have OR1 : Hid (∀ t s vv m ys, t ≠ 22 → t ≠ 4 → t ≠ 9 → W.ownsRow base t s vv m ys → v1.ownsRow base t s vv m ys) := fun t s vv m ys g1 g2 g3 q => S0.out.rowK hK1 (OR0.out t s vv m ys q) g1 g2 g3
  refine hK.out _ _ (KQ.out _ S1.out.2.2.2.2 I1.out) (fun hH0 => ?_)
  clear hK K hS hK1 S0 I0 R0 NR0 OR0 HC
  try simp only [Act.put, List.getElem_toArray, List.getElem_cons_succ, List.getElem_cons_zero, Array.toArray_toList, List.size_toArray, List.setIfInBounds_toArray, List.set_cons_zero, List.set_cons_succ]
  refine wpAnyH_ready (rs := [9]) (by kernel_rfl) (by simp) ?_
  refine AllReadyH.cons rfl (fun K hK => ?_) AllReadyH.nil
  clear hH0
  go_simp
  have S2 : Hid (Sx w0 (v1.alloc (.cells #[.string D] 9)) base Bt Bs Bd Bh Bo vt1 vd1 (TL ++ T1) sm1) := S1.out.below (nB v1 _)
  have I2 : Hid (IHolds (v1.alloc (.cells #[.string D] 9)) Bsp 37 [.int .i64 (p1 : Int), .int .i64 (p2 : Int)]) := I1.out.of_below (nB v1 _)
  have R2 : Hid ((v1.alloc (.cells #[.string D] 9)).ownsRow base 9 1 v20 n xs) := row_keep R1.out (nB v1 _)
  have OR2 : Hid (∀ t s vv m ys, t ≠ 22 → t ≠ 4 → t ≠ 9 → W.ownsRow base t s vv m ys → (v1.alloc (.cells #[.string D] 9)).ownsRow base t s vv m ys) := fun t s vv m ys g1 g2 g3 q => row_keep (OR1.out t s vv m ys g1 g2 g3 q) (nB v1 _)
  refine hK.out _ _ (KQ.out _ S2.out.2.2.2.2 I2.out) (fun hH0 => ?_)
  clear hK K
  try simp only [Act.put, List.getElem_toArray, List.getElem_cons_succ, List.getElem_cons_zero, Array.toArray_toList, List.size_toArray, List.setIfInBounds_toArray, List.set_cons_zero, List.set_cons_succ]
  refine wpAnyH_ready (rs := [10]) (by kernel_rfl) (by simp) ?_
  refine AllReadyH.cons rfl (fun K hK => ?_) AllReadyH.nil
  clear hH0
  refine wp_append_own_at' (.tmp 46) (.tmp 55) 22 rfl base 9 i0 (.string ⟨#[]⟩) 1 16 Tryd.underlying22 hi0 hz0 hz1 hz2 rfl (by decide) v20 n xs rfl R2.out ⟨v1.heap.size, 0, none⟩ 1 1 [.string D] rfl rfl (one_news v1 D) (fun u hu => by simp at hu; subst hu; rfl) (by unfold maxLen; omega) (by omega) S2.out.2.2.1 ?_
  intro v9 w9 hown hgrow hat
  have S9 : Hid (Sx w0 w9 base Bt Bs Bd Bh Bo vt1 vd1 (TL ++ T1) sm1) := S2.out.grown hgrow (fun k q => ⟨(R2.out.lt k q).1, NR1.out k q, fun e => Boxed.not_row S2.out.2.2.2.1 (by decide) R2.out (by rw [q, e]), fun e => Boxed.not_row S2.out.2.2.2.2 (by decide) R2.out (by rw [q, e])⟩)
  have R9 : Hid (w9.ownsRow base 9 1 v9 (n + 1) (xs ++ [.string D])) := hown
  have NR9 : Hid (∀ k, v9.ownBlock = some k → ¬ Ft Bt Bs Bd vt1 vd1 k) := fun k q f => by
    rcases hat with e | e
    · exact NR1.out k (e.symm.trans q) f
    · rw [e] at q
      cases q
      have hlt : ∀ j, Ft Bt Bs Bd vt1 vd1 j → j < (v1.alloc (.cells #[.string D] 9)).heap.size := fun j g => by
        rcases g with rfl | rfl | rfl | g | g
        · exact S2.out.1.t.lt
        · exact S2.out.1.s.lt
        · exact S2.out.1.d.lt
        · exact (S2.out.1.rt.lt j g).2
        · exact (S2.out.1.rd.lt j g).2
      have := hlt _ f
      omega
  have OR9 : Hid (∀ t s vv m ys, t ≠ 22 → t ≠ 4 → t ≠ 9 → W.ownsRow base t s vv m ys → w9.ownsRow base t s vv m ys) := fun t s vv m ys g1 g2 g3 q => row_apart (OR2.out t s vv m ys g1 g2 g3 q) R2.out g3 hgrow
  have I9 : Hid (IHolds w9 Bsp 37 [.int .i64 (p1 : Int), .int .i64 (p2 : Int)]) := (hgrow.block Bsp I2.out.lt (fun q => by
    obtain ⟨cs, hc⟩ := row_obj R2.out q.symm
    have e := (show (v1.alloc (.cells #[.string D] 9)).heap[Bsp]? = _ from I2.out).symm.trans hc
    simp at e)).trans I2.out
  clear hown hgrow hat
  refine hK.out _ _ (KQ.out _ S9.out.2.2.2.2 I9.out) (fun hH0 => ?_)
  clear hK K
  try simp only [Act.put, List.getElem_toArray, List.getElem_cons_succ, List.getElem_cons_zero, Array.toArray_toList, List.size_toArray, List.setIfInBounds_toArray, List.set_cons_zero, List.set_cons_succ]
  refine tk (i := 11) (v := v9) rfl (by kernel_rfl) (fun _ _ _ h => h) (by kernel_rfl) ?_ hH0 ?_
  · intro V hS; obtain ⟨q1, q2, q3⟩ := hS; go_simp; try (first | omega | exact wrapN (by omega) | go_num)
  simp only [Act.put, List.getElem_toArray, List.getElem_cons_succ, List.getElem_cons_zero, Array.toArray_toList, List.size_toArray, List.setIfInBounds_toArray, List.set_cons_zero, List.set_cons_succ]
  refine wpAnyH_done (by kernel_rfl) ?_ _
  exact HQ.out _ _ _ _ _ _ _ _ _ _ _ _ _ _ _ _ S9.out R9.out NR9.out OR9.out
set_option maxHeartbeats 4000000 in
theorem r28_top {w0 W : World} {base Bt Bs Bd Bh Bo g n cap i n1 a1 b2 : Nat} {vt vd : Value} {TL : List ByteArray} {sm : Bool} {f d D J : ByteArray} {cs : Array Value} {R : Act → World → Prop} {t0 t1 t2 t3 t4 t5 t6 t7 t8 t9 t10 t11 t12 t13 t14 t15 t16 t17 t19 t20 t21 t22 t23 t24 t26 t27 t29 t30 t31 t32 t33 t34 t35 t36 t37 t38 t39 t40 t41 t42 t43 t44 t45 t46 t47 t48 t49 t50 t51 t52 t53 t54 t55 t56 t57 t58 t59 t60 t61 t62 t63 t64 t65 t66 t67 t68 t69 t70 t71 t72 t73 t74 t75 t76 t77 t78 t79 t80 t81 t82 t83 t84 t85 t86 t87 t88 t89 t90 t91 t92 t93 t94 t95 t96 t97 t98 t99 t100 t101 t102 t103 t104 t105 t106 t107 t108 t109 t110 t111 t112 t113 t114 t115 t116 t117 t118 t119 t120 t121 t122 t123 t124 t125 t126 t127 t128 t129 t130 t131 t132 t133 t134 t135 t136 t137 t138 t139 t140 t141 t142 t143 t144 t145 t146 t147 t148 t149 t150 t151 t152 t153 t154 t155 t156 t157 t158 t159 t160 t161 t162 t163 t164 t165 t166 t167 t168 t169 t170 t171 t172 t173 t174 t175 t176 t177 : Value}
    (k0 : (i : Int) < (n : Int)) (k1 : (n1 : Int) < (n : Int)) (k2 : (i : Int) + 1 = (n1 : Int)) (k3 : IntKind.i64.wrap (n1 : Int) = (n1 : Int)) (hg : W.heap[g]? = some (.cells cs 55))
    (h : Sx w0 W base Bt Bs Bd Bh Bo vt vd TL sm)
    (q1 : W.cell? ⟨g, i * 3, none⟩ = some (.int .i64 (a1 : Int))) (q2 : W.cell? ⟨g, i * 3 + 2, none⟩ = some (.string f)) (q3 : W.cell? ⟨g, n1 * 3 + 1, none⟩ = some (.int .i64 (b2 : Int))) (q4 : W.cell? ⟨g, n1 * 3 + 2, none⟩ = some (.string d))
    (C : ∀ V a, Sx w0 V base Bt Bs Bd Bh Bo vt vd TL sm → SL V a [f, d] → Calls Tryd.prog 16 #[.string lBlock, .slice a 2 2, .pointer (some ⟨Bt, 0, none⟩), .pointer (some ⟨Bs, 0, none⟩), .pointer (some ⟨Bd, 0, none⟩)] V fun e V' => e = .returned (.string D) ∧ XP w0 V V' base Bt Bs Bd Bh Bo vt vd (TL ++ [J]))
    (hQ : ∀ V Bk vt' vd' sm' u117 u118 u119 u120 u121 u122 u123 u124 u125 u126 u127 u128 u129 u130 u131 u132 u133 u134 u135 u136 u137 u138 u139 u140 u141 u142 u143 u144 u145, Sx w0 V base Bt Bs Bd Bh Bo vt' vd' (TL ++ [J]) sm' → IHolds V Bk 55 [.int .i64 (a1 : Int), .int .i64 (b2 : Int), .string D] → V.heap[g]? = W.heap[g]? → W.heap.size ≤ V.heap.size → R ⟨#[t0, t1, t2, t3, t4, t5, t6, t7, t8, t9, t10, t11, t12, t13, t14, t15, t16, t17, .pointer (some ⟨Bh, 0, none⟩), t19, t20, t21, t22, t23, t24, .slice (some ⟨g, 0, none⟩) n cap, t26, t27, .int .i64 (i : Int), .pointer (some ⟨Bk, 0, none⟩), t30, t31, t32, t33, t34, t35, t36, t37, t38, t39, t40, t41, t42, t43, t44, t45, t46, t47, t48, t49, t50, t51, t52, t53, t54, t55, t56, t57, t58, t59, t60, t61, t62, t63, t64, t65, t66, t67, t68, t69, t70, t71, t72, t73, t74, t75, t76, t77, t78, t79, t80, t81, t82, t83, t84, t85, t86, t87, t88, t89, t90, t91, t92, t93, t94, t95, t96, t97, t98, t99, t100, t101, t102, t103, t104, t105, t106, t107, t108, t109, t110, t111, t112, t113, t114, t115, t116, u117, u118, u119, u120, u121, u122, u123, u124, u125, u126, u127, u128, u129, u130, u131, u132, u133, u134, u135, u136, u137, u138, u139, u140, u141, u142, u143, u144, u145, t146, t147, t148, t149, t150, t151, t152, t153, t154, t155, t156, t157, t158, t159, t160, t161, t162, t163, t164, t165, t166, t167, t168, t169, t170, t171, t172, t173, t174, t175, t176, t177], []⟩ V) :
    r28.wp Tryd.prog (fun e aa ww => match e with | .normal => R aa ww | _ => False) ⟨#[t0, t1, t2, t3, t4, t5, t6, t7, t8, t9, t10, t11, t12, t13, t14, t15, t16, t17, .pointer (some ⟨Bh, 0, none⟩), t19, t20, t21, t22, t23, t24, .slice (some ⟨g, 0, none⟩) n cap, t26, t27, .int .i64 (i : Int), t29, t30, t31, t32, t33, t34, t35, t36, t37, t38, t39, t40, t41, t42, t43, t44, t45, t46, t47, t48, t49, t50, t51, t52, t53, t54, t55, t56, t57, t58, t59, t60, t61, t62, t63, t64, t65, t66, t67, t68, t69, t70, t71, t72, t73, t74, t75, t76, t77, t78, t79, t80, t81, t82, t83, t84, t85, t86, t87, t88, t89, t90, t91, t92, t93, t94, t95, t96, t97, t98, t99, t100, t101, t102, t103, t104, t105, t106, t107, t108, t109, t110, t111, t112, t113, t114, t115, t116, t117, t118, t119, t120, t121, t122, t123, t124, t125, t126, t127, t128, t129, t130, t131, t132, t133, t134, t135, t136, t137, t138, t139, t140, t141, t142, t143, t144, t145, t146, t147, t148, t149, t150, t151, t152, t153, t154, t155, t156, t157, t158, t159, t160, t161, t162, t163, t164, t165, t166, t167, t168, t169, t170, t171, t172, t173, t174, t175, t176, t177], []⟩ W := by
  have HQ : Hid (∀ V Bk vt' vd' sm' u117 u118 u119 u120 u121 u122 u123 u124 u125 u126 u127 u128 u129 u130 u131 u132 u133 u134 u135 u136 u137 u138 u139 u140 u141 u142 u143 u144 u145, Sx w0 V base Bt Bs Bd Bh Bo vt' vd' (TL ++ [J]) sm' → IHolds V Bk 55 [.int .i64 (a1 : Int), .int .i64 (b2 : Int), .string D] → V.heap[g]? = W.heap[g]? → W.heap.size ≤ V.heap.size → R ⟨#[t0, t1, t2, t3, t4, t5, t6, t7, t8, t9, t10, t11, t12, t13, t14, t15, t16, t17, .pointer (some ⟨Bh, 0, none⟩), t19, t20, t21, t22, t23, t24, .slice (some ⟨g, 0, none⟩) n cap, t26, t27, .int .i64 (i : Int), .pointer (some ⟨Bk, 0, none⟩), t30, t31, t32, t33, t34, t35, t36, t37, t38, t39, t40, t41, t42, t43, t44, t45, t46, t47, t48, t49, t50, t51, t52, t53, t54, t55, t56, t57, t58, t59, t60, t61, t62, t63, t64, t65, t66, t67, t68, t69, t70, t71, t72, t73, t74, t75, t76, t77, t78, t79, t80, t81, t82, t83, t84, t85, t86, t87, t88, t89, t90, t91, t92, t93, t94, t95, t96, t97, t98, t99, t100, t101, t102, t103, t104, t105, t106, t107, t108, t109, t110, t111, t112, t113, t114, t115, t116, u117, u118, u119, u120, u121, u122, u123, u124, u125, u126, u127, u128, u129, u130, u131, u132, u133, u134, u135, u136, u137, u138, u139, u140, u141, u142, u143, u144, u145, t146, t147, t148, t149, t150, t151, t152, t153, t154, t155, t156, t157, t158, t159, t160, t161, t162, t163, t164, t165, t166, t167, t168, t169, t170, t171, t172, t173, t174, t175, t176, t177], []⟩ V) := hQ
  have HC : Hid (∀ V a, Sx w0 V base Bt Bs Bd Bh Bo vt vd TL sm → SL V a [f, d] → Calls Tryd.prog 16 #[.string lBlock, .slice a 2 2, .pointer (some ⟨Bt, 0, none⟩), .pointer (some ⟨Bs, 0, none⟩), .pointer (some ⟨Bd, 0, none⟩)] V fun e V' => e = .returned (.string D) ∧ XP w0 V V' base Bt Bs Bd Bh Bo vt vd (TL ++ [J])) := C
  have KQ : Hid (∀ V, V.heap[g]? = W.heap[g]? → Boxed V Bh 48 (.func (.func 16) #[] #[.pointer (some ⟨Bt, 0, none⟩), .pointer (some ⟨Bs, 0, none⟩), .pointer (some ⟨Bd, 0, none⟩)]) → (V.cell? ⟨g, i * 3, none⟩ = some (.int .i64 (a1 : Int)) ∧ V.cell? ⟨g, i * 3 + 2, none⟩ = some (.string f) ∧ V.cell? ⟨g, n1 * 3 + 1, none⟩ = some (.int .i64 (b2 : Int)) ∧ V.cell? ⟨g, n1 * 3 + 2, none⟩ = some (.string d) ∧ V.cell? ⟨Bh, 0, none⟩ = some (.func (.func 16) #[] #[.pointer (some ⟨Bt, 0, none⟩), .pointer (some ⟨Bs, 0, none⟩), .pointer (some ⟨Bd, 0, none⟩)]))) := fun V e b => ⟨(World.cell?_of_block (a := ⟨g, i * 3, none⟩) e).trans q1, (World.cell?_of_block (a := ⟨g, i * 3 + 2, none⟩) e).trans q2, (World.cell?_of_block (a := ⟨g, n1 * 3 + 1, none⟩) e).trans q3, (World.cell?_of_block (a := ⟨g, n1 * 3 + 2, none⟩) e).trans q4, Boxed.cell b⟩
  have HG : Hid (W.heap[g]? = some (.cells cs 55)) := hg
  have hgl : g < W.heap.size := (Array.getElem?_eq_some_iff.1 hg).1
  have hd : Below W.heap.size W W.drew := (Below.refl _ W).drew
  have S0 : Hid (Sx w0 W.drew base Bt Bs Bd Bh Bo vt vd TL sm) := h.below hd
  have G0 : Hid (W.drew.heap[g]? = W.heap[g]?) := rfl
  have Z0 : Hid (W.heap.size ≤ W.drew.heap.size) := hd.size
  unfold lBlock at HC
  clear hQ C h q1 q2 q3 q4 hd hg
  unfold r28
  refine wp_region_held_drew (S := fun V => V.cell? ⟨g, i * 3, none⟩ = some (.int .i64 (a1 : Int)) ∧ V.cell? ⟨g, i * 3 + 2, none⟩ = some (.string f) ∧ V.cell? ⟨g, n1 * 3 + 1, none⟩ = some (.int .i64 (b2 : Int)) ∧ V.cell? ⟨g, n1 * 3 + 2, none⟩ = some (.string d) ∧ V.cell? ⟨Bh, 0, none⟩ = some (.func (.func 16) #[] #[.pointer (some ⟨Bt, 0, none⟩), .pointer (some ⟨Bs, 0, none⟩), .pointer (some ⟨Bd, 0, none⟩)])) (by kernel_rfl) (KQ.out _ G0.out S0.out.2.2.2.1) (fun hH0 => ?_)
  generalize W.drew = v0 at *
  refine tk (i := 0) (v := .slice (some ⟨g, 0, none⟩) n cap) rfl (by kernel_rfl) (fun _ _ _ h => h) (by kernel_rfl) ?_ hH0 ?_
  · intro V hS; obtain ⟨q1, q2, q3, q4, q5⟩ := hS; go_simp; try (first | omega | exact wrapN (by omega) | go_num)
  simp only [Act.put, List.getElem_toArray, List.getElem_cons_succ, List.getElem_cons_zero, Array.toArray_toList, List.size_toArray, List.setIfInBounds_toArray, List.set_cons_zero, List.set_cons_succ]
  refine tk (i := 1) (v := .int .i64 (i : Int)) rfl (by kernel_rfl) (fun _ _ _ h => h) (by kernel_rfl) ?_ hH0 ?_
  · intro V hS; obtain ⟨q1, q2, q3, q4, q5⟩ := hS; go_simp; try (first | omega | exact wrapN (by omega) | go_num)
  simp only [Act.put, List.getElem_toArray, List.getElem_cons_succ, List.getElem_cons_zero, Array.toArray_toList, List.size_toArray, List.setIfInBounds_toArray, List.set_cons_zero, List.set_cons_succ]
  refine tk (i := 2) (v := .pointer (some ⟨g, i * 3, none⟩)) rfl (by kernel_rfl) (fun _ _ _ h => h) (by kernel_rfl) ?_ hH0 ?_
  · intro V hS; obtain ⟨q1, q2, q3, q4, q5⟩ := hS; go_simp; try (first | omega | exact wrapN (by omega) | go_num)
  simp only [Act.put, List.getElem_toArray, List.getElem_cons_succ, List.getElem_cons_zero, Array.toArray_toList, List.size_toArray, List.setIfInBounds_toArray, List.set_cons_zero, List.set_cons_succ]
  refine tk (i := 3) (v := .pointer (some ⟨g, i * 3, none⟩)) rfl (by kernel_rfl) (fun _ _ _ h => h) (by kernel_rfl) ?_ hH0 ?_
  · intro V hS; obtain ⟨q1, q2, q3, q4, q5⟩ := hS; go_simp; try (first | omega | exact wrapN (by omega) | go_num)
  simp only [Act.put, List.getElem_toArray, List.getElem_cons_succ, List.getElem_cons_zero, Array.toArray_toList, List.size_toArray, List.setIfInBounds_toArray, List.set_cons_zero, List.set_cons_succ]
  refine tk (i := 4) (v := .pointer (some ⟨g, i * 3, none⟩)) rfl (by kernel_rfl) (fun _ _ _ h => h) (by kernel_rfl) ?_ hH0 ?_
  · intro V hS; obtain ⟨q1, q2, q3, q4, q5⟩ := hS; go_simp; try (first | omega | exact wrapN (by omega) | go_num)
  simp only [Act.put, List.getElem_toArray, List.getElem_cons_succ, List.getElem_cons_zero, Array.toArray_toList, List.size_toArray, List.setIfInBounds_toArray, List.set_cons_zero, List.set_cons_succ]
  refine tk (i := 5) (v := .int .i64 (a1 : Int)) rfl (by kernel_rfl) (fun _ _ _ h => h) (by kernel_rfl) ?_ hH0 ?_
  · intro V hS; obtain ⟨q1, q2, q3, q4, q5⟩ := hS; go_simp; try (first | omega | exact wrapN (by omega) | go_num)
  simp only [Act.put, List.getElem_toArray, List.getElem_cons_succ, List.getElem_cons_zero, Array.toArray_toList, List.size_toArray, List.setIfInBounds_toArray, List.set_cons_zero, List.set_cons_succ]
  refine tk (i := 6) (v := .slice (some ⟨g, 0, none⟩) n cap) rfl (by kernel_rfl) (fun _ _ _ h => h) (by kernel_rfl) ?_ hH0 ?_
  · intro V hS; obtain ⟨q1, q2, q3, q4, q5⟩ := hS; go_simp; try (first | omega | exact wrapN (by omega) | go_num)
  simp only [Act.put, List.getElem_toArray, List.getElem_cons_succ, List.getElem_cons_zero, Array.toArray_toList, List.size_toArray, List.setIfInBounds_toArray, List.set_cons_zero, List.set_cons_succ]
  refine tk (i := 7) (v := .int .i64 (i : Int)) rfl (by kernel_rfl) (fun _ _ _ h => h) (by kernel_rfl) ?_ hH0 ?_
  · intro V hS; obtain ⟨q1, q2, q3, q4, q5⟩ := hS; go_simp; try (first | omega | exact wrapN (by omega) | go_num)
  simp only [Act.put, List.getElem_toArray, List.getElem_cons_succ, List.getElem_cons_zero, Array.toArray_toList, List.size_toArray, List.setIfInBounds_toArray, List.set_cons_zero, List.set_cons_succ]
  refine tk (i := 8) (v := .int .i64 (n1 : Int)) rfl (by kernel_rfl) (fun _ _ _ h => h) (by kernel_rfl) ?_ hH0 ?_
  · intro V hS; obtain ⟨q1, q2, q3, q4, q5⟩ := hS; go_simp; try (first | omega | exact wrapN (by omega) | go_num)
  simp only [Act.put, List.getElem_toArray, List.getElem_cons_succ, List.getElem_cons_zero, Array.toArray_toList, List.size_toArray, List.setIfInBounds_toArray, List.set_cons_zero, List.set_cons_succ]
  refine tk (i := 9) (v := .pointer (some ⟨g, n1 * 3, none⟩)) rfl (by kernel_rfl) (fun _ _ _ h => h) (by kernel_rfl) ?_ hH0 ?_
  · intro V hS; obtain ⟨q1, q2, q3, q4, q5⟩ := hS; go_simp; try (first | omega | exact wrapN (by omega) | go_num)
  simp only [Act.put, List.getElem_toArray, List.getElem_cons_succ, List.getElem_cons_zero, Array.toArray_toList, List.size_toArray, List.setIfInBounds_toArray, List.set_cons_zero, List.set_cons_succ]
  refine tk (i := 10) (v := .pointer (some ⟨g, n1 * 3, none⟩)) rfl (by kernel_rfl) (fun _ _ _ h => h) (by kernel_rfl) ?_ hH0 ?_
  · intro V hS; obtain ⟨q1, q2, q3, q4, q5⟩ := hS; go_simp; try (first | omega | exact wrapN (by omega) | go_num)
  simp only [Act.put, List.getElem_toArray, List.getElem_cons_succ, List.getElem_cons_zero, Array.toArray_toList, List.size_toArray, List.setIfInBounds_toArray, List.set_cons_zero, List.set_cons_succ]
  refine tk (i := 11) (v := .pointer (some ⟨g, n1 * 3 + 1, none⟩)) rfl (by kernel_rfl) (fun _ _ _ h => h) (by kernel_rfl) ?_ hH0 ?_
  · intro V hS; obtain ⟨q1, q2, q3, q4, q5⟩ := hS; go_simp; try (first | omega | exact wrapN (by omega) | go_num)
  simp only [Act.put, List.getElem_toArray, List.getElem_cons_succ, List.getElem_cons_zero, Array.toArray_toList, List.size_toArray, List.setIfInBounds_toArray, List.set_cons_zero, List.set_cons_succ]
  refine tk (i := 12) (v := .int .i64 (b2 : Int)) rfl (by kernel_rfl) (fun _ _ _ h => h) (by kernel_rfl) ?_ hH0 ?_
  · intro V hS; obtain ⟨q1, q2, q3, q4, q5⟩ := hS; go_simp; try (first | omega | exact wrapN (by omega) | go_num)
  simp only [Act.put, List.getElem_toArray, List.getElem_cons_succ, List.getElem_cons_zero, Array.toArray_toList, List.size_toArray, List.setIfInBounds_toArray, List.set_cons_zero, List.set_cons_succ]
  refine tk (i := 13) (v := .agg #[.int .i64 (a1 : Int), .int .i64 (b2 : Int)]) rfl (by kernel_rfl) (fun _ _ _ h => h) (by kernel_rfl) ?_ hH0 ?_
  · intro V hS; obtain ⟨q1, q2, q3, q4, q5⟩ := hS; go_simp; try (first | omega | exact wrapN (by omega) | go_num)
  simp only [Act.put, List.getElem_toArray, List.getElem_cons_succ, List.getElem_cons_zero, Array.toArray_toList, List.size_toArray, List.setIfInBounds_toArray, List.set_cons_zero, List.set_cons_succ]
  refine tk (i := 14) (v := .func (.func 16) #[] #[.pointer (some ⟨Bt, 0, none⟩), .pointer (some ⟨Bs, 0, none⟩), .pointer (some ⟨Bd, 0, none⟩)]) rfl (by kernel_rfl) (fun _ _ _ h => h) (by kernel_rfl) ?_ hH0 ?_
  · intro V hS; obtain ⟨q1, q2, q3, q4, q5⟩ := hS; go_simp; try (first | omega | exact wrapN (by omega) | go_num)
  simp only [Act.put, List.getElem_toArray, List.getElem_cons_succ, List.getElem_cons_zero, Array.toArray_toList, List.size_toArray, List.setIfInBounds_toArray, List.set_cons_zero, List.set_cons_succ]
  refine tk (i := 15) (v := .slice (some ⟨g, 0, none⟩) n cap) rfl (by kernel_rfl) (fun _ _ _ h => h) (by kernel_rfl) ?_ hH0 ?_
  · intro V hS; obtain ⟨q1, q2, q3, q4, q5⟩ := hS; go_simp; try (first | omega | exact wrapN (by omega) | go_num)
  simp only [Act.put, List.getElem_toArray, List.getElem_cons_succ, List.getElem_cons_zero, Array.toArray_toList, List.size_toArray, List.setIfInBounds_toArray, List.set_cons_zero, List.set_cons_succ]
  refine tk (i := 16) (v := .int .i64 (i : Int)) rfl (by kernel_rfl) (fun _ _ _ h => h) (by kernel_rfl) ?_ hH0 ?_
  · intro V hS; obtain ⟨q1, q2, q3, q4, q5⟩ := hS; go_simp; try (first | omega | exact wrapN (by omega) | go_num)
  simp only [Act.put, List.getElem_toArray, List.getElem_cons_succ, List.getElem_cons_zero, Array.toArray_toList, List.size_toArray, List.setIfInBounds_toArray, List.set_cons_zero, List.set_cons_succ]
  refine tk (i := 17) (v := .pointer (some ⟨g, i * 3, none⟩)) rfl (by kernel_rfl) (fun _ _ _ h => h) (by kernel_rfl) ?_ hH0 ?_
  · intro V hS; obtain ⟨q1, q2, q3, q4, q5⟩ := hS; go_simp; try (first | omega | exact wrapN (by omega) | go_num)
  simp only [Act.put, List.getElem_toArray, List.getElem_cons_succ, List.getElem_cons_zero, Array.toArray_toList, List.size_toArray, List.setIfInBounds_toArray, List.set_cons_zero, List.set_cons_succ]
  refine tk (i := 18) (v := .pointer (some ⟨g, i * 3 + 2, none⟩)) rfl (by kernel_rfl) (fun _ _ _ h => h) (by kernel_rfl) ?_ hH0 ?_
  · intro V hS; obtain ⟨q1, q2, q3, q4, q5⟩ := hS; go_simp; try (first | omega | exact wrapN (by omega) | go_num)
  simp only [Act.put, List.getElem_toArray, List.getElem_cons_succ, List.getElem_cons_zero, Array.toArray_toList, List.size_toArray, List.setIfInBounds_toArray, List.set_cons_zero, List.set_cons_succ]
  refine tk (i := 19) (v := .string f) rfl (by kernel_rfl) (fun _ _ _ h => h) (by kernel_rfl) ?_ hH0 ?_
  · intro V hS; obtain ⟨q1, q2, q3, q4, q5⟩ := hS; go_simp; try (first | omega | exact wrapN (by omega) | go_num)
  simp only [Act.put, List.getElem_toArray, List.getElem_cons_succ, List.getElem_cons_zero, Array.toArray_toList, List.size_toArray, List.setIfInBounds_toArray, List.set_cons_zero, List.set_cons_succ]
  refine tk (i := 20) (v := .slice (some ⟨g, 0, none⟩) n cap) rfl (by kernel_rfl) (fun _ _ _ h => h) (by kernel_rfl) ?_ hH0 ?_
  · intro V hS; obtain ⟨q1, q2, q3, q4, q5⟩ := hS; go_simp; try (first | omega | exact wrapN (by omega) | go_num)
  simp only [Act.put, List.getElem_toArray, List.getElem_cons_succ, List.getElem_cons_zero, Array.toArray_toList, List.size_toArray, List.setIfInBounds_toArray, List.set_cons_zero, List.set_cons_succ]
  refine tk (i := 21) (v := .int .i64 (i : Int)) rfl (by kernel_rfl) (fun _ _ _ h => h) (by kernel_rfl) ?_ hH0 ?_
  · intro V hS; obtain ⟨q1, q2, q3, q4, q5⟩ := hS; go_simp; try (first | omega | exact wrapN (by omega) | go_num)
  simp only [Act.put, List.getElem_toArray, List.getElem_cons_succ, List.getElem_cons_zero, Array.toArray_toList, List.size_toArray, List.setIfInBounds_toArray, List.set_cons_zero, List.set_cons_succ]
  refine tk (i := 22) (v := .int .i64 (n1 : Int)) rfl (by kernel_rfl) (fun _ _ _ h => h) (by kernel_rfl) ?_ hH0 ?_
  · intro V hS; obtain ⟨q1, q2, q3, q4, q5⟩ := hS; go_simp; try (first | omega | exact wrapN (by omega) | go_num)
  simp only [Act.put, List.getElem_toArray, List.getElem_cons_succ, List.getElem_cons_zero, Array.toArray_toList, List.size_toArray, List.setIfInBounds_toArray, List.set_cons_zero, List.set_cons_succ]
  refine tk (i := 23) (v := .pointer (some ⟨g, n1 * 3, none⟩)) rfl (by kernel_rfl) (fun _ _ _ h => h) (by kernel_rfl) ?_ hH0 ?_
  · intro V hS; obtain ⟨q1, q2, q3, q4, q5⟩ := hS; go_simp; try (first | omega | exact wrapN (by omega) | go_num)
  simp only [Act.put, List.getElem_toArray, List.getElem_cons_succ, List.getElem_cons_zero, Array.toArray_toList, List.size_toArray, List.setIfInBounds_toArray, List.set_cons_zero, List.set_cons_succ]
  refine tk (i := 24) (v := .pointer (some ⟨g, n1 * 3 + 2, none⟩)) rfl (by kernel_rfl) (fun _ _ _ h => h) (by kernel_rfl) ?_ hH0 ?_
  · intro V hS; obtain ⟨q1, q2, q3, q4, q5⟩ := hS; go_simp; try (first | omega | exact wrapN (by omega) | go_num)
  simp only [Act.put, List.getElem_toArray, List.getElem_cons_succ, List.getElem_cons_zero, Array.toArray_toList, List.size_toArray, List.setIfInBounds_toArray, List.set_cons_zero, List.set_cons_succ]
  refine tk (i := 25) (v := .string d) rfl (by kernel_rfl) (fun _ _ _ h => h) (by kernel_rfl) ?_ hH0 ?_
  · intro V hS; obtain ⟨q1, q2, q3, q4, q5⟩ := hS; go_simp; try (first | omega | exact wrapN (by omega) | go_num)
  simp only [Act.put, List.getElem_toArray, List.getElem_cons_succ, List.getElem_cons_zero, Array.toArray_toList, List.size_toArray, List.setIfInBounds_toArray, List.set_cons_zero, List.set_cons_succ]
  refine wpAnyH_ready (rs := [26, 29]) (by kernel_rfl) (by simp) ?_
  refine AllReadyH.cons rfl (fun K hK => ?_) (AllReadyH.cons rfl (fun K hK => ?_) AllReadyH.nil)
  · clear hH0
    go_simp
    have S1 : Hid (Sx w0 (v0.alloc (.cells #[.string f, .string d] 9)) base Bt Bs Bd Bh Bo vt vd TL sm) := S0.out.below (nB v0 _)
    have G1 : Hid ((v0.alloc (.cells #[.string f, .string d] 9)).heap[g]? = W.heap[g]?) := (Below.heap_alloc _ _ _ (Nat.lt_of_lt_of_le hgl Z0.out)).trans G0.out
    have Z1 : Hid (W.heap.size ≤ (v0.alloc (.cells #[.string f, .string d] 9)).heap.size) := Nat.le_trans Z0.out (nB v0 _).size
    have L1 : Hid (SL (v0.alloc (.cells #[.string f, .string d] 9)) (some ⟨v0.heap.size, 0, none⟩) [f, d]) := IHolds.sl (l := [f, d]) (IHolds.new v0 9 [.string f, .string d])
    generalize v0.alloc (.cells #[.string f, .string d] 9) = X1 at *
    generalize v0.heap.size = b6 at *
    refine hK.out _ _ (KQ.out _ G1.out S1.out.2.2.2.1) (fun hH0 => ?_)
    clear hK K
    try simp only [Act.put, List.getElem_toArray, List.getElem_cons_succ, List.getElem_cons_zero, Array.toArray_toList, List.size_toArray, List.setIfInBounds_toArray, List.set_cons_zero, List.set_cons_succ]
    refine wpAnyH_ready (rs := [27, 29]) (by kernel_rfl) (by simp) ?_
    refine AllReadyH.cons rfl (fun K hK => ?_) (AllReadyH.cons rfl (fun K hK => ?_) AllReadyH.nil)
    · clear hH0
      go_simp
      refine (HC.out _ _ S1.out L1.out).mono ?_
      rintro e X2 ⟨rfl, vt1, vd1, sm1, hS, hK1⟩
      have S2 : Hid (Sx w0 X2 base Bt Bs Bd Bh Bo vt1 vd1 (TL ++ [J]) sm1) := hS
      have G2 : Hid (X2.heap[g]? = W.heap[g]?) := (hK1.keep g (Nat.lt_of_lt_of_le hgl Z1.out) (Ft_not S1.out (G1.out.trans HG.out) (by decide) (by decide) (by decide))).1.trans G1.out
      have Z2 : Hid (W.heap.size ≤ X2.heap.size) := Nat.le_trans Z1.out hK1.size
      refine hK.out _ _ (KQ.out _ G2.out S2.out.2.2.2.1) (fun hH0 => ?_)
      clear hK K hS hK1
      try simp only [Act.put, List.getElem_toArray, List.getElem_cons_succ, List.getElem_cons_zero, Array.toArray_toList, List.size_toArray, List.setIfInBounds_toArray, List.set_cons_zero, List.set_cons_succ]
      refine tk (i := 28) (v := .agg #[.int .i64 (a1 : Int), .int .i64 (b2 : Int), .string D]) rfl (by kernel_rfl) (fun _ _ _ h => h) (by kernel_rfl) ?_ hH0 ?_
      · intro V hS; obtain ⟨q1, q2, q3, q4, q5⟩ := hS; go_simp; try (first | omega | exact wrapN (by omega) | go_num)
      simp only [Act.put, List.getElem_toArray, List.getElem_cons_succ, List.getElem_cons_zero, Array.toArray_toList, List.size_toArray, List.setIfInBounds_toArray, List.set_cons_zero, List.set_cons_succ]
      refine wpAnyH_ready (rs := [29]) (by kernel_rfl) (by simp) ?_
      refine AllReadyH.cons rfl (fun K hK => ?_) AllReadyH.nil
      clear hH0
      go_simp
      have S3 : Hid (Sx w0 (X2.alloc (.cells #[.int .i64 0, .int .i64 0, .string ⟨#[]⟩] 55)) base Bt Bs Bd Bh Bo vt1 vd1 (TL ++ [J]) sm1) := S2.out.below (nB X2 _)
      have G3 : Hid ((X2.alloc (.cells #[.int .i64 0, .int .i64 0, .string ⟨#[]⟩] 55)).heap[g]? = W.heap[g]?) := (Below.heap_alloc _ _ _ (Nat.lt_of_lt_of_le hgl Z2.out)).trans G2.out
      have Z3 : Hid (W.heap.size ≤ (X2.alloc (.cells #[.int .i64 0, .int .i64 0, .string ⟨#[]⟩] 55)).heap.size) := Nat.le_trans Z2.out (nB X2 _).size
      have IB3 : Hid (IHolds (X2.alloc (.cells #[.int .i64 0, .int .i64 0, .string ⟨#[]⟩] 55)) X2.heap.size 55 [.int .i64 0, .int .i64 0, .string ⟨#[]⟩]) := IHolds.new X2 55 [.int .i64 0, .int .i64 0, .string ⟨#[]⟩]
      have gB : Hid (g ≠ X2.heap.size) := fun q => by have := Z2.out; omega
      have bB : Hid (base ≤ X2.heap.size) := S2.out.2.2.1
      generalize X2.alloc (.cells #[.int .i64 0, .int .i64 0, .string ⟨#[]⟩] 55) = X3 at *
      generalize X2.heap.size = Bk at *
      refine hK.out _ _ (KQ.out _ G3.out S3.out.2.2.2.1) (fun hH0 => ?_)
      clear hK K
      try simp only [Act.put, List.getElem_toArray, List.getElem_cons_succ, List.getElem_cons_zero, Array.toArray_toList, List.size_toArray, List.setIfInBounds_toArray, List.set_cons_zero, List.set_cons_succ]
      refine wpAnyH_ready (rs := [30]) (by kernel_rfl) (by simp) ?_
      refine AllReadyH.cons rfl (fun K hK => ?_) AllReadyH.nil
      clear hH0
      have g1 : X3.cell? ⟨Bk, 0, none⟩ = some (.int .i64 0) := IB3.out.cell 0 (by simp)
      have g2 : X3.cell? ⟨Bk, 1, none⟩ = some (.int .i64 0) := IB3.out.cell 1 (by simp)
      have g3 : X3.cell? ⟨Bk, 2, none⟩ = some (.string ⟨#[]⟩) := IB3.out.cell 2 (by simp)
      have f1 := IB3.out.frozen 0
      have f2 := IB3.out.frozen 1
      have f3 := IB3.out.frozen 2
      go_simp
      clear g1 g2 g3 f1 f2 f3
      have nf := Ft_not S3.out IB3.out (by decide) (by decide) (by decide)
      have nh : Bk ≠ Bh := fun q => by
        have e1 : X3.heap[Bk]? = _ := IB3.out
        have e2 : X3.heap[Bh]? = _ := S3.out.2.2.2.1
        rw [q, e2] at e1
        simp at e1
      have no : Bk ≠ Bo := fun q => by
        have e1 : X3.heap[Bk]? = _ := IB3.out
        have e2 : X3.heap[Bo]? = _ := S3.out.2.2.2.2
        rw [q, e2] at e1
        simp at e1
      have S9 : Hid (Sx w0 (((X3.setCell ⟨Bk, 0, none⟩ (.int .i64 (a1 : Int))).setCell ⟨Bk, 1, none⟩ (.int .i64 (b2 : Int))).setCell ⟨Bk, 2, none⟩ (.string D)) base Bt Bs Bd Bh Bo vt1 vd1 (TL ++ [J]) sm1) := ((S3.out.set (p := ⟨Bk, 0, none⟩) _ nf nh no bB.out).set (p := ⟨Bk, 1, none⟩) _ nf nh no bB.out).set (p := ⟨Bk, 2, none⟩) _ nf nh no bB.out
      have I9 : Hid (IHolds (((X3.setCell ⟨Bk, 0, none⟩ (.int .i64 (a1 : Int))).setCell ⟨Bk, 1, none⟩ (.int .i64 (b2 : Int))).setCell ⟨Bk, 2, none⟩ (.string D)) Bk 55 [.int .i64 (a1 : Int), .int .i64 (b2 : Int), .string D]) := ((IB3.out.set 0 _).set 1 _).set 2 _
      have G9 : Hid ((((X3.setCell ⟨Bk, 0, none⟩ (.int .i64 (a1 : Int))).setCell ⟨Bk, 1, none⟩ (.int .i64 (b2 : Int))).setCell ⟨Bk, 2, none⟩ (.string D)).heap[g]? = W.heap[g]?) := (Below.heap_setCell _ _ _ _ gB.out).trans ((Below.heap_setCell _ _ _ _ gB.out).trans ((Below.heap_setCell _ _ _ _ gB.out).trans G3.out))
      have Z9 : Hid (W.heap.size ≤ (((X3.setCell ⟨Bk, 0, none⟩ (.int .i64 (a1 : Int))).setCell ⟨Bk, 1, none⟩ (.int .i64 (b2 : Int))).setCell ⟨Bk, 2, none⟩ (.string D)).heap.size) := by have := Z3.out; show _ ≤ _; simpa using this
      refine hK.out _ _ (KQ.out _ G9.out S9.out.2.2.2.1) (fun hH0 => ?_)
      clear hK K
      try simp only [Act.put, List.getElem_toArray, List.getElem_cons_succ, List.getElem_cons_zero, Array.toArray_toList, List.size_toArray, List.setIfInBounds_toArray, List.set_cons_zero, List.set_cons_succ]
      refine wpAnyH_done (by kernel_rfl) ?_ _
      exact HQ.out _ _ _ _ _ _ _ _ _ _ _ _ _ _ _ _ _ _ _ _ _ _ _ _ _ _ _ _ _ _ _ _ _ _ S9.out I9.out G9.out Z9.out
    · clear hH0
      go_simp
      have S2 : Hid (Sx w0 (X1.alloc (.cells #[.int .i64 0, .int .i64 0, .string ⟨#[]⟩] 55)) base Bt Bs Bd Bh Bo vt vd TL sm) := S1.out.below (nB X1 _)
      have G2 : Hid ((X1.alloc (.cells #[.int .i64 0, .int .i64 0, .string ⟨#[]⟩] 55)).heap[g]? = W.heap[g]?) := (Below.heap_alloc _ _ _ (Nat.lt_of_lt_of_le hgl Z1.out)).trans G1.out
      have Z2 : Hid (W.heap.size ≤ (X1.alloc (.cells #[.int .i64 0, .int .i64 0, .string ⟨#[]⟩] 55)).heap.size) := Nat.le_trans Z1.out (nB X1 _).size
      have IB2 : Hid (IHolds (X1.alloc (.cells #[.int .i64 0, .int .i64 0, .string ⟨#[]⟩] 55)) X1.heap.size 55 [.int .i64 0, .int .i64 0, .string ⟨#[]⟩]) := IHolds.new X1 55 [.int .i64 0, .int .i64 0, .string ⟨#[]⟩]
      have gB : Hid (g ≠ X1.heap.size) := fun q => by have := Z1.out; omega
      have bB : Hid (base ≤ X1.heap.size) := S1.out.2.2.1
      have L2 : Hid (SL (X1.alloc (.cells #[.int .i64 0, .int .i64 0, .string ⟨#[]⟩] 55)) (some ⟨b6, 0, none⟩) [f, d]) := L1.out.of_below (nB X1 _)
      generalize X1.alloc (.cells #[.int .i64 0, .int .i64 0, .string ⟨#[]⟩] 55) = X2 at *
      generalize X1.heap.size = Bk at *
      refine hK.out _ _ (KQ.out _ G2.out S2.out.2.2.2.1) (fun hH0 => ?_)
      clear hK K
      try simp only [Act.put, List.getElem_toArray, List.getElem_cons_succ, List.getElem_cons_zero, Array.toArray_toList, List.size_toArray, List.setIfInBounds_toArray, List.set_cons_zero, List.set_cons_succ]
      refine wpAnyH_ready (rs := [27]) (by kernel_rfl) (by simp) ?_
      refine AllReadyH.cons rfl (fun K hK => ?_) AllReadyH.nil
      clear hH0
      go_simp
      refine (HC.out _ _ S2.out L2.out).mono ?_
      rintro e X3 ⟨rfl, vt1, vd1, sm1, hS, hK1⟩
      have S3 : Hid (Sx w0 X3 base Bt Bs Bd Bh Bo vt1 vd1 (TL ++ [J]) sm1) := hS
      have G3 : Hid (X3.heap[g]? = W.heap[g]?) := (hK1.keep g (Nat.lt_of_lt_of_le hgl Z2.out) (Ft_not S2.out (G2.out.trans HG.out) (by decide) (by decide) (by decide))).1.trans G2.out
      have Z3 : Hid (W.heap.size ≤ X3.heap.size) := Nat.le_trans Z2.out hK1.size
      have IB3 : Hid (IHolds X3 Bk 55 [.int .i64 0, .int .i64 0, .string ⟨#[]⟩]) := S2.out.holdK hK1 IB2.out (by decide) (by decide) (by decide)
      refine hK.out _ _ (KQ.out _ G3.out S3.out.2.2.2.1) (fun hH0 => ?_)
      clear hK K hS hK1
      try simp only [Act.put, List.getElem_toArray, List.getElem_cons_succ, List.getElem_cons_zero, Array.toArray_toList, List.size_toArray, List.setIfInBounds_toArray, List.set_cons_zero, List.set_cons_succ]
      refine tk (i := 28) (v := .agg #[.int .i64 (a1 : Int), .int .i64 (b2 : Int), .string D]) rfl (by kernel_rfl) (fun _ _ _ h => h) (by kernel_rfl) ?_ hH0 ?_
      · intro V hS; obtain ⟨q1, q2, q3, q4, q5⟩ := hS; go_simp; try (first | omega | exact wrapN (by omega) | go_num)
      simp only [Act.put, List.getElem_toArray, List.getElem_cons_succ, List.getElem_cons_zero, Array.toArray_toList, List.size_toArray, List.setIfInBounds_toArray, List.set_cons_zero, List.set_cons_succ]
      refine wpAnyH_ready (rs := [30]) (by kernel_rfl) (by simp) ?_
      refine AllReadyH.cons rfl (fun K hK => ?_) AllReadyH.nil
      clear hH0
      have g1 : X3.cell? ⟨Bk, 0, none⟩ = some (.int .i64 0) := IB3.out.cell 0 (by simp)
      have g2 : X3.cell? ⟨Bk, 1, none⟩ = some (.int .i64 0) := IB3.out.cell 1 (by simp)
      have g3 : X3.cell? ⟨Bk, 2, none⟩ = some (.string ⟨#[]⟩) := IB3.out.cell 2 (by simp)
      have f1 := IB3.out.frozen 0
      have f2 := IB3.out.frozen 1
      have f3 := IB3.out.frozen 2
      go_simp
      clear g1 g2 g3 f1 f2 f3
      have nf := Ft_not S3.out IB3.out (by decide) (by decide) (by decide)
      have nh : Bk ≠ Bh := fun q => by
        have e1 : X3.heap[Bk]? = _ := IB3.out
        have e2 : X3.heap[Bh]? = _ := S3.out.2.2.2.1
        rw [q, e2] at e1
        simp at e1
      have no : Bk ≠ Bo := fun q => by
        have e1 : X3.heap[Bk]? = _ := IB3.out
        have e2 : X3.heap[Bo]? = _ := S3.out.2.2.2.2
        rw [q, e2] at e1
        simp at e1
      have S9 : Hid (Sx w0 (((X3.setCell ⟨Bk, 0, none⟩ (.int .i64 (a1 : Int))).setCell ⟨Bk, 1, none⟩ (.int .i64 (b2 : Int))).setCell ⟨Bk, 2, none⟩ (.string D)) base Bt Bs Bd Bh Bo vt1 vd1 (TL ++ [J]) sm1) := ((S3.out.set (p := ⟨Bk, 0, none⟩) _ nf nh no bB.out).set (p := ⟨Bk, 1, none⟩) _ nf nh no bB.out).set (p := ⟨Bk, 2, none⟩) _ nf nh no bB.out
      have I9 : Hid (IHolds (((X3.setCell ⟨Bk, 0, none⟩ (.int .i64 (a1 : Int))).setCell ⟨Bk, 1, none⟩ (.int .i64 (b2 : Int))).setCell ⟨Bk, 2, none⟩ (.string D)) Bk 55 [.int .i64 (a1 : Int), .int .i64 (b2 : Int), .string D]) := ((IB3.out.set 0 _).set 1 _).set 2 _
      have G9 : Hid ((((X3.setCell ⟨Bk, 0, none⟩ (.int .i64 (a1 : Int))).setCell ⟨Bk, 1, none⟩ (.int .i64 (b2 : Int))).setCell ⟨Bk, 2, none⟩ (.string D)).heap[g]? = W.heap[g]?) := (Below.heap_setCell _ _ _ _ gB.out).trans ((Below.heap_setCell _ _ _ _ gB.out).trans ((Below.heap_setCell _ _ _ _ gB.out).trans G3.out))
      have Z9 : Hid (W.heap.size ≤ (((X3.setCell ⟨Bk, 0, none⟩ (.int .i64 (a1 : Int))).setCell ⟨Bk, 1, none⟩ (.int .i64 (b2 : Int))).setCell ⟨Bk, 2, none⟩ (.string D)).heap.size) := by have := Z3.out; show _ ≤ _; simpa using this
      refine hK.out _ _ (KQ.out _ G9.out S9.out.2.2.2.1) (fun hH0 => ?_)
      clear hK K
      try simp only [Act.put, List.getElem_toArray, List.getElem_cons_succ, List.getElem_cons_zero, Array.toArray_toList, List.size_toArray, List.setIfInBounds_toArray, List.set_cons_zero, List.set_cons_succ]
      refine wpAnyH_done (by kernel_rfl) ?_ _
      exact HQ.out _ _ _ _ _ _ _ _ _ _ _ _ _ _ _ _ _ _ _ _ _ _ _ _ _ _ _ _ _ _ _ _ _ _ S9.out I9.out G9.out Z9.out
  · clear hH0
    go_simp
    have S1 : Hid (Sx w0 (v0.alloc (.cells #[.int .i64 0, .int .i64 0, .string ⟨#[]⟩] 55)) base Bt Bs Bd Bh Bo vt vd TL sm) := S0.out.below (nB v0 _)
    have G1 : Hid ((v0.alloc (.cells #[.int .i64 0, .int .i64 0, .string ⟨#[]⟩] 55)).heap[g]? = W.heap[g]?) := (Below.heap_alloc _ _ _ (Nat.lt_of_lt_of_le hgl Z0.out)).trans G0.out
    have Z1 : Hid (W.heap.size ≤ (v0.alloc (.cells #[.int .i64 0, .int .i64 0, .string ⟨#[]⟩] 55)).heap.size) := Nat.le_trans Z0.out (nB v0 _).size
    have IB1 : Hid (IHolds (v0.alloc (.cells #[.int .i64 0, .int .i64 0, .string ⟨#[]⟩] 55)) v0.heap.size 55 [.int .i64 0, .int .i64 0, .string ⟨#[]⟩]) := IHolds.new v0 55 [.int .i64 0, .int .i64 0, .string ⟨#[]⟩]
    have gB : Hid (g ≠ v0.heap.size) := fun q => by have := Z0.out; omega
    have bB : Hid (base ≤ v0.heap.size) := S0.out.2.2.1
    generalize v0.alloc (.cells #[.int .i64 0, .int .i64 0, .string ⟨#[]⟩] 55) = X1 at *
    generalize v0.heap.size = Bk at *
    refine hK.out _ _ (KQ.out _ G1.out S1.out.2.2.2.1) (fun hH0 => ?_)
    clear hK K
    try simp only [Act.put, List.getElem_toArray, List.getElem_cons_succ, List.getElem_cons_zero, Array.toArray_toList, List.size_toArray, List.setIfInBounds_toArray, List.set_cons_zero, List.set_cons_succ]
    refine wpAnyH_ready (rs := [26]) (by kernel_rfl) (by simp) ?_
    refine AllReadyH.cons rfl (fun K hK => ?_) AllReadyH.nil
    clear hH0
    go_simp
    have S2 : Hid (Sx w0 (X1.alloc (.cells #[.string f, .string d] 9)) base Bt Bs Bd Bh Bo vt vd TL sm) := S1.out.below (nB X1 _)
    have G2 : Hid ((X1.alloc (.cells #[.string f, .string d] 9)).heap[g]? = W.heap[g]?) := (Below.heap_alloc _ _ _ (Nat.lt_of_lt_of_le hgl Z1.out)).trans G1.out
    have Z2 : Hid (W.heap.size ≤ (X1.alloc (.cells #[.string f, .string d] 9)).heap.size) := Nat.le_trans Z1.out (nB X1 _).size
    have L2 : Hid (SL (X1.alloc (.cells #[.string f, .string d] 9)) (some ⟨X1.heap.size, 0, none⟩) [f, d]) := IHolds.sl (l := [f, d]) (IHolds.new X1 9 [.string f, .string d])
    have IB2 : Hid (IHolds (X1.alloc (.cells #[.string f, .string d] 9)) Bk 55 [.int .i64 0, .int .i64 0, .string ⟨#[]⟩]) := IB1.out.of_below (nB X1 _)
    generalize X1.alloc (.cells #[.string f, .string d] 9) = X2 at *
    generalize X1.heap.size = b6 at *
    refine hK.out _ _ (KQ.out _ G2.out S2.out.2.2.2.1) (fun hH0 => ?_)
    clear hK K
    try simp only [Act.put, List.getElem_toArray, List.getElem_cons_succ, List.getElem_cons_zero, Array.toArray_toList, List.size_toArray, List.setIfInBounds_toArray, List.set_cons_zero, List.set_cons_succ]
    refine wpAnyH_ready (rs := [27]) (by kernel_rfl) (by simp) ?_
    refine AllReadyH.cons rfl (fun K hK => ?_) AllReadyH.nil
    clear hH0
    go_simp
    refine (HC.out _ _ S2.out L2.out).mono ?_
    rintro e X3 ⟨rfl, vt1, vd1, sm1, hS, hK1⟩
    have S3 : Hid (Sx w0 X3 base Bt Bs Bd Bh Bo vt1 vd1 (TL ++ [J]) sm1) := hS
    have G3 : Hid (X3.heap[g]? = W.heap[g]?) := (hK1.keep g (Nat.lt_of_lt_of_le hgl Z2.out) (Ft_not S2.out (G2.out.trans HG.out) (by decide) (by decide) (by decide))).1.trans G2.out
    have Z3 : Hid (W.heap.size ≤ X3.heap.size) := Nat.le_trans Z2.out hK1.size
    have IB3 : Hid (IHolds X3 Bk 55 [.int .i64 0, .int .i64 0, .string ⟨#[]⟩]) := S2.out.holdK hK1 IB2.out (by decide) (by decide) (by decide)
    refine hK.out _ _ (KQ.out _ G3.out S3.out.2.2.2.1) (fun hH0 => ?_)
    clear hK K hS hK1
    try simp only [Act.put, List.getElem_toArray, List.getElem_cons_succ, List.getElem_cons_zero, Array.toArray_toList, List.size_toArray, List.setIfInBounds_toArray, List.set_cons_zero, List.set_cons_succ]
    refine tk (i := 28) (v := .agg #[.int .i64 (a1 : Int), .int .i64 (b2 : Int), .string D]) rfl (by kernel_rfl) (fun _ _ _ h => h) (by kernel_rfl) ?_ hH0 ?_
    · intro V hS; obtain ⟨q1, q2, q3, q4, q5⟩ := hS; go_simp; try (first | omega | exact wrapN (by omega) | go_num)
    simp only [Act.put, List.getElem_toArray, List.getElem_cons_succ, List.getElem_cons_zero, Array.toArray_toList, List.size_toArray, List.setIfInBounds_toArray, List.set_cons_zero, List.set_cons_succ]
    refine wpAnyH_ready (rs := [30]) (by kernel_rfl) (by simp) ?_
    refine AllReadyH.cons rfl (fun K hK => ?_) AllReadyH.nil
    clear hH0
    have g1 : X3.cell? ⟨Bk, 0, none⟩ = some (.int .i64 0) := IB3.out.cell 0 (by simp)
    have g2 : X3.cell? ⟨Bk, 1, none⟩ = some (.int .i64 0) := IB3.out.cell 1 (by simp)
    have g3 : X3.cell? ⟨Bk, 2, none⟩ = some (.string ⟨#[]⟩) := IB3.out.cell 2 (by simp)
    have f1 := IB3.out.frozen 0
    have f2 := IB3.out.frozen 1
    have f3 := IB3.out.frozen 2
    go_simp
    clear g1 g2 g3 f1 f2 f3
    have nf := Ft_not S3.out IB3.out (by decide) (by decide) (by decide)
    have nh : Bk ≠ Bh := fun q => by
      have e1 : X3.heap[Bk]? = _ := IB3.out
      have e2 : X3.heap[Bh]? = _ := S3.out.2.2.2.1
      rw [q, e2] at e1
      simp at e1
    have no : Bk ≠ Bo := fun q => by
      have e1 : X3.heap[Bk]? = _ := IB3.out
      have e2 : X3.heap[Bo]? = _ := S3.out.2.2.2.2
      rw [q, e2] at e1
      simp at e1
    have S9 : Hid (Sx w0 (((X3.setCell ⟨Bk, 0, none⟩ (.int .i64 (a1 : Int))).setCell ⟨Bk, 1, none⟩ (.int .i64 (b2 : Int))).setCell ⟨Bk, 2, none⟩ (.string D)) base Bt Bs Bd Bh Bo vt1 vd1 (TL ++ [J]) sm1) := ((S3.out.set (p := ⟨Bk, 0, none⟩) _ nf nh no bB.out).set (p := ⟨Bk, 1, none⟩) _ nf nh no bB.out).set (p := ⟨Bk, 2, none⟩) _ nf nh no bB.out
    have I9 : Hid (IHolds (((X3.setCell ⟨Bk, 0, none⟩ (.int .i64 (a1 : Int))).setCell ⟨Bk, 1, none⟩ (.int .i64 (b2 : Int))).setCell ⟨Bk, 2, none⟩ (.string D)) Bk 55 [.int .i64 (a1 : Int), .int .i64 (b2 : Int), .string D]) := ((IB3.out.set 0 _).set 1 _).set 2 _
    have G9 : Hid ((((X3.setCell ⟨Bk, 0, none⟩ (.int .i64 (a1 : Int))).setCell ⟨Bk, 1, none⟩ (.int .i64 (b2 : Int))).setCell ⟨Bk, 2, none⟩ (.string D)).heap[g]? = W.heap[g]?) := (Below.heap_setCell _ _ _ _ gB.out).trans ((Below.heap_setCell _ _ _ _ gB.out).trans ((Below.heap_setCell _ _ _ _ gB.out).trans G3.out))
    have Z9 : Hid (W.heap.size ≤ (((X3.setCell ⟨Bk, 0, none⟩ (.int .i64 (a1 : Int))).setCell ⟨Bk, 1, none⟩ (.int .i64 (b2 : Int))).setCell ⟨Bk, 2, none⟩ (.string D)).heap.size) := by have := Z3.out; show _ ≤ _; simpa using this
    refine hK.out _ _ (KQ.out _ G9.out S9.out.2.2.2.1) (fun hH0 => ?_)
    clear hK K
    try simp only [Act.put, List.getElem_toArray, List.getElem_cons_succ, List.getElem_cons_zero, Array.toArray_toList, List.size_toArray, List.setIfInBounds_toArray, List.set_cons_zero, List.set_cons_succ]
    refine wpAnyH_done (by kernel_rfl) ?_ _
    exact HQ.out _ _ _ _ _ _ _ _ _ _ _ _ _ _ _ _ _ _ _ _ _ _ _ _ _ _ _ _ _ _ _ _ _ _ S9.out I9.out G9.out Z9.out
end Go.Proofs.YteomefhjglnghaaDoor

