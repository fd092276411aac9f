/- The document's Hand: the loop over what happened. -/
import Derived.Test.YtafekaonmpkhiaaEb
import Derived.Deep.CutBlock
set_option linter.unusedSimpArgs false
set_option linter.unusedVariables false
set_option maxRecDepth 100000
namespace Go.Proofs.Ytafekaonmpkhiaa
open Go.RowKit Go.Shelf Go.Deep Go.PlainAid Go.Maps Go.WideMaps

theorem act3 (a : Int) : a = 1 ∨ a = 5 ∨ (a ≠ 1 ∧ a ≠ 5) := by omega
theorem packs_take {l : List Hd} {k : Nat} (hk : k < l.length) : (packs (l.take (k + 1))).length = (packs (l.take k)).length + (if l[k].act = 1 then 1 else 0) := by
  rw [List.take_succ_eq_append_getElem hk, packs_snoc]
  split <;> simp
theorem had_take {l : List Hd} {k : Nat} (hk : k < l.length) (s : ByteArray) : had (l.take (k + 1)) s = (had (l.take k) s || hadB s l[k]) := by
  rw [List.take_succ_eq_append_getElem hk, had_snoc]
theorem packs_le (l : List Hd) : (packs l).length ≤ l.length := by
  unfold packs
  rw [List.length_map]
  exact List.length_filter_le _ _
def lo6 : Code := (Go.Code.block 0 ((Go.Code.region 13 #[{ dst := some 107, op := Go.Op.binOp Go.BinOp.lss 3 (Go.Operand.tmp 106) (Go.Operand.tmp 105) 3, type := 0, pos := "ref.go:302", after := #[], guard := none }] false).seq ((Go.Code.cond (Go.Operand.tmp 107) Go.Code.skip (Go.Code.exit 0)).seq ((Go.Code.block 1 ((Go.Code.region 14 #[{ dst := some 108, op := Go.Op.indexAddr 22 (Go.Operand.tmp 104) (Go.Operand.tmp 106), type := 0, pos := "ref.go:302", after := #[], guard := none }, { dst := some 109, op := Go.Op.load 26 (Go.Operand.tmp 108), type := 26, pos := "ref.go:302", after := #[{ on := 0, ground := Go.Ground.data }], guard := none }, { dst := some 14, op := Go.Op.alloc 26, type := 0, pos := "ref.go:302", after := #[], guard := none }, { dst := none, op := Go.Op.store 26 (Go.Operand.tmp 14) (Go.Operand.tmp 109), type := 0, pos := "ref.go:302", after := #[{ on := 2, ground := Go.Ground.data }, { on := 1, ground := Go.Ground.data }, { on := 0, ground := Go.Ground.phase }, { on := 1, ground := Go.Ground.phase }, { on := 2, ground := Go.Ground.phase }], guard := none }] false).seq (((Go.Code.region 15 #[{ dst := some 110, op := Go.Op.fieldAddr 26 (Go.Operand.tmp 14) 0, type := 0, pos := "ref.go:303", after := #[], guard := none }, { dst := some 111, op := Go.Op.load 3 (Go.Operand.tmp 110), type := 3, pos := "ref.go:303", after := #[{ on := 0, ground := Go.Ground.data }], guard := none }, { dst := some 112, op := Go.Op.binOp Go.BinOp.eql 3 (Go.Operand.tmp 111) (Go.Operand.const (Go.Value.int Go.IntKind.i64 1)) 3, type := 4, pos := "ref.go:303", after := #[{ on := 1, ground := Go.Ground.data }], guard := none }] false).seq (Go.Code.cond (Go.Operand.tmp 112) (Go.Code.region 16 #[{ dst := some 113, op := Go.Op.move (Go.Operand.tmp 11), type := 3, pos := "ref.go:304", after := #[], guard := none }, { dst := some 114, op := Go.Op.binOp Go.BinOp.add 3 (Go.Operand.tmp 113) (Go.Operand.const (Go.Value.int Go.IntKind.i64 1)) 3, type := 3, pos := "ref.go:304", after := #[{ on := 0, ground := Go.Ground.data }], guard := none }, { dst := some 11, op := Go.Op.assign (Go.Operand.tmp 114), type := 3, pos := "ref.go:304", after := #[{ on := 1, ground := Go.Ground.data }, { on := 0, ground := Go.Ground.phase }, { on := 1, ground := Go.Ground.phase }], guard := none }] false) Go.Code.skip)).seq (Go.Code.region 17 #[{ dst := some 115, op := Go.Op.move (Go.Operand.tmp 12), type := 4, pos := "ref.go:306", after := #[], guard := none }, { dst := some 116, op := Go.Op.move (Go.Operand.tmp 115), type := 4, pos := "ref.go:306", after := #[{ on := 0, ground := Go.Ground.data }], guard := none }, { dst := some 117, op := Go.Op.fieldAddr 26 (Go.Operand.tmp 14) 0, type := 0, pos := "ref.go:306", after := #[{ on := 1, ground := Go.Ground.guard }], guard := some (1, false) }, { dst := some 118, op := Go.Op.load 3 (Go.Operand.tmp 117), type := 3, pos := "ref.go:306", after := #[{ on := 2, ground := Go.Ground.data }, { on := 1, ground := Go.Ground.guard }], guard := some (1, false) }, { dst := some 119, op := Go.Op.binOp Go.BinOp.eql 3 (Go.Operand.tmp 118) (Go.Operand.const (Go.Value.int Go.IntKind.i64 1)) 3, type := 4, pos := "ref.go:306", after := #[{ on := 3, ground := Go.Ground.data }, { on := 1, ground := Go.Ground.guard }], guard := some (1, false) }, { dst := some 120, op := Go.Op.move (Go.Operand.tmp 119), type := 4, pos := "ref.go:306", after := #[{ on := 4, ground := Go.Ground.data }, { on := 1, ground := Go.Ground.chain }, { on := 1, ground := Go.Ground.guard }], guard := some (1, false) }, { dst := some 121, op := Go.Op.fieldAddr 26 (Go.Operand.tmp 14) 0, type := 0, pos := "ref.go:306", after := #[{ on := 5, ground := Go.Ground.guard }], guard := some (5, false) }, { dst := some 122, op := Go.Op.load 3 (Go.Operand.tmp 121), type := 3, pos := "ref.go:306", after := #[{ on := 6, ground := Go.Ground.data }, { on := 5, ground := Go.Ground.guard }], guard := some (5, false) }, { dst := some 123, op := Go.Op.binOp Go.BinOp.eql 3 (Go.Operand.tmp 122) (Go.Operand.const (Go.Value.int Go.IntKind.i64 5)) 3, type := 4, pos := "ref.go:306", after := #[{ on := 7, ground := Go.Ground.data }, { on := 5, ground := Go.Ground.guard }], guard := some (5, false) }, { dst := some 124, op := Go.Op.pick (Go.Operand.tmp 120) (Go.Operand.const (Go.Value.bool true)) (Go.Operand.tmp 123), type := 4, pos := "ref.go:306", after := #[{ on := 5, ground := Go.Ground.data }, { on := 8, ground := Go.Ground.data }, { on := 1, ground := Go.Ground.guard }], guard := some (1, false) }, { dst := some 125, op := Go.Op.move (Go.Operand.tmp 124), type := 4, pos := "ref.go:306", after := #[{ on := 9, ground := Go.Ground.data }, { on := 5, ground := Go.Ground.chain }, { on := 1, ground := Go.Ground.guard }], guard := some (1, false) }, { dst := some 126, op := Go.Op.fieldAddr 26 (Go.Operand.tmp 14) 5, type := 0, pos := "ref.go:306", after := #[{ on := 10, ground := Go.Ground.guard }], guard := some (10, true) }, { dst := some 127, op := Go.Op.load 9 (Go.Operand.tmp 126), type := 9, pos := "ref.go:306", after := #[{ on := 11, ground := Go.Ground.data }, { on := 10, ground := Go.Ground.guard }], guard := some (10, true) }, { dst := some 128, op := Go.Op.fieldAddr 26 (Go.Operand.tmp 3) 5, type := 0, pos := "ref.go:306", after := #[{ on := 10, ground := Go.Ground.guard }], guard := some (10, true) }, { dst := some 129, op := Go.Op.load 9 (Go.Operand.tmp 128), type := 9, pos := "ref.go:306", after := #[{ on := 13, ground := Go.Ground.data }, { on := 10, ground := Go.Ground.guard }], guard := some (10, true) }, { dst := some 130, op := Go.Op.binOp Go.BinOp.eql 9 (Go.Operand.tmp 127) (Go.Operand.tmp 129) 9, type := 4, pos := "ref.go:306", after := #[{ on := 12, ground := Go.Ground.data }, { on := 14, ground := Go.Ground.data }, { on := 10, ground := Go.Ground.guard }], guard := some (10, true) }, { dst := some 131, op := Go.Op.pick (Go.Operand.tmp 125) (Go.Operand.tmp 130) (Go.Operand.const (Go.Value.bool false)), type := 4, pos := "ref.go:306", after := #[{ on := 10, ground := Go.Ground.data }, { on := 15, ground := Go.Ground.data }, { on := 1, ground := Go.Ground.guard }], guard := some (1, false) }, { dst := some 132, op := Go.Op.pick (Go.Operand.tmp 116) (Go.Operand.const (Go.Value.bool true)) (Go.Operand.tmp 131), type := 4, pos := "ref.go:306", after := #[{ on := 1, ground := Go.Ground.data }, { on := 16, ground := Go.Ground.data }], guard := none }, { dst := some 12, op := Go.Op.assign (Go.Operand.tmp 132), type := 4, pos := "ref.go:306", after := #[{ on := 17, ground := Go.Ground.data }, { on := 10, ground := Go.Ground.chain }, { on := 0, ground := Go.Ground.phase }, { on := 1, ground := Go.Ground.phase }, { on := 2, ground := Go.Ground.phase }, { on := 3, ground := Go.Ground.phase }, { on := 4, ground := Go.Ground.phase }, { on := 5, ground := Go.Ground.phase }, { on := 6, ground := Go.Ground.phase }, { on := 7, ground := Go.Ground.phase }, { on := 8, ground := Go.Ground.phase }, { on := 9, ground := Go.Ground.phase }, { on := 10, ground := Go.Ground.phase }, { on := 11, ground := Go.Ground.phase }, { on := 12, ground := Go.Ground.phase }, { on := 13, ground := Go.Ground.phase }, { on := 14, ground := Go.Ground.phase }, { on := 15, ground := Go.Ground.phase }, { on := 16, ground := Go.Ground.phase }, { on := 17, ground := Go.Ground.phase }], guard := none }] false)))).seq (Go.Code.region 18 #[{ dst := some 133, op := Go.Op.binOp Go.BinOp.add 3 (Go.Operand.tmp 106) (Go.Operand.const (Go.Value.int Go.IntKind.i64 1)) 3, type := 3, pos := "ref.go:302", after := #[], guard := none }, { dst := some 106, op := Go.Op.move (Go.Operand.tmp 133), type := 3, pos := "ref.go:302", after := #[{ on := 0, ground := Go.Ground.data }], guard := none }] false)))).loop)
set_option maxHeartbeats 8000000 in
theorem lo6_wp {w : World} {df : List Deferred} {hb c : Nat} {a : Option Addr} {l : List Hd} {h : Hd} {Q : Exit → Act → World → Prop} {t0 t1 t2 t4 t5 t6 t7 t8 t9 t10 t13 t14 t15 t16 t17 t18 t19 t20 t21 t22 t23 t24 t25 t26 t27 t28 t29 t30 t31 t32 t33 t34 t35 t36 t37 t38 t39 t40 t41 t42 t43 t44 t45 t46 t47 t48 t49 t50 t51 t52 t53 t54 t55 t56 t57 t58 t59 t60 t61 t62 t63 t64 t65 t66 t67 t68 t69 t70 t71 t72 t73 t74 t75 t76 t77 t78 t79 t80 t81 t82 t83 t84 t85 t86 t87 t88 t89 t90 t91 t92 t93 t94 t95 t96 t97 t98 t99 t100 t101 t102 t103 t107 t108 t109 t110 t111 t112 t113 t114 t115 t116 t117 t118 t119 t120 t121 t122 t123 t124 t125 t126 t127 t128 t129 t130 t131 t132 t133 t134 t135 t136 t137 t138 t139 t140 t141 t142 t143 t144 t145 t146 t147 t148 t149 t150 t151 t152 t153 t154 t155 t156 t157 t158 t159 t160 t161 t162 t163 t164 t165 t166 t167 t168 t169 t170 t171 t172 t173 t174 t175 t176 t177 t178 t179 t180 t181 t182 t183 t184 t185 t186 t187 t188 t189 t190 t191 t192 t193 t194 t195 t196 t197 t198 t199 t200 t201 t202 t203 t204 t205 t206 t207 t208 t209 t210 t211 t212 t213 t214 t215 t216 t217 t218 t219 t220 t221 t222 t223 t224 t225 t226 t227 t228 t229 t230 t231 t232 t233 t234 t235 : Value}
    (hl : HLs w (.slice a l.length c) l) (hh : IHolds w hb 26 (hcells h)) (hn : l.length < 140737488355328)
    (hQ : ∀ u14 u106 u107 u108 u109 u110 u111 u112 u113 u114 u115 u116 u117 u118 u119 u120 u121 u122 u123 u124 u125 u126 u127 u128 u129 u130 u131 u132 u133 W, Below w.heap.size w W → Q .normal ⟨#[t0, t1, t2, .pointer (some ⟨hb, 0, none⟩), t4, t5, t6, t7, t8, t9, t10, .int .i64 ((packs l).length : Int), .bool (had l h.sl), t13, u14, t15, t16, t17, t18, t19, t20, t21, t22, t23, t24, t25, t26, t27, t28, t29, t30, t31, t32, t33, t34, t35, t36, t37, t38, t39, t40, t41, t42, t43, t44, t45, t46, t47, t48, t49, t50, t51, t52, t53, t54, t55, t56, t57, t58, t59, t60, t61, t62, t63, t64, t65, t66, t67, t68, t69, t70, t71, t72, t73, t74, t75, t76, t77, t78, t79, t80, t81, t82, t83, t84, t85, t86, t87, t88, t89, t90, t91, t92, t93, t94, t95, t96, t97, t98, t99, t100, t101, t102, t103, .slice a l.length c, .int .i64 (l.length : Int), u106, u107, u108, u109, u110, u111, u112, u113, u114, u115, u116, u117, u118, u119, u120, u121, u122, u123, u124, u125, u126, u127, u128, u129, u130, u131, u132, u133, t134, t135, t136, t137, t138, t139, t140, t141, t142, t143, t144, t145, t146, t147, t148, t149, t150, t151, t152, t153, t154, t155, t156, t157, t158, t159, t160, t161, t162, t163, t164, t165, t166, t167, t168, t169, t170, t171, t172, t173, t174, t175, t176, t177, t178, t179, t180, t181, t182, t183, t184, t185, t186, t187, t188, t189, t190, t191, t192, t193, t194, t195, t196, t197, t198, t199, t200, t201, t202, t203, t204, t205, t206, t207, t208, t209, t210, t211, t212, t213, t214, t215, t216, t217, t218, t219, t220, t221, t222, t223, t224, t225, t226, t227, t228, t229, t230, t231, t232, t233, t234, t235], df⟩ W) :
    lo6.wp Try.prog Q ⟨#[t0, t1, t2, .pointer (some ⟨hb, 0, none⟩), t4, t5, t6, t7, t8, t9, t10, .int .i64 0, .bool false, t13, t14, t15, t16, t17, t18, t19, t20, t21, t22, t23, t24, t25, t26, t27, t28, t29, t30, t31, t32, t33, t34, t35, t36, t37, t38, t39, t40, t41, t42, t43, t44, t45, t46, t47, t48, t49, t50, t51, t52, t53, t54, t55, t56, t57, t58, t59, t60, t61, t62, t63, t64, t65, t66, t67, t68, t69, t70, t71, t72, t73, t74, t75, t76, t77, t78, t79, t80, t81, t82, t83, t84, t85, t86, t87, t88, t89, t90, t91, t92, t93, t94, t95, t96, t97, t98, t99, t100, t101, t102, t103, .slice a l.length c, .int .i64 (l.length : Int), .int .i64 0, t107, t108, t109, t110, t111, t112, t113, t114, t115, t116, t117, t118, t119, t120, t121, t122, t123, t124, t125, t126, t127, t128, t129, t130, t131, t132, t133, t134, t135, t136, t137, t138, t139, t140, t141, t142, t143, t144, t145, t146, t147, t148, t149, t150, t151, t152, t153, t154, t155, t156, t157, t158, t159, t160, t161, t162, t163, t164, t165, t166, t167, t168, t169, t170, t171, t172, t173, t174, t175, t176, t177, t178, t179, t180, t181, t182, t183, t184, t185, t186, t187, t188, t189, t190, t191, t192, t193, t194, t195, t196, t197, t198, t199, t200, t201, t202, t203, t204, t205, t206, t207, t208, t209, t210, t211, t212, t213, t214, t215, t216, t217, t218, t219, t220, t221, t222, t223, t224, t225, t226, t227, t228, t229, t230, t231, t232, t233, t234, t235], df⟩ w := by
  have HQ : Hid (∀ u14 u106 u107 u108 u109 u110 u111 u112 u113 u114 u115 u116 u117 u118 u119 u120 u121 u122 u123 u124 u125 u126 u127 u128 u129 u130 u131 u132 u133 W, Below w.heap.size w W → Q .normal ⟨#[t0, t1, t2, .pointer (some ⟨hb, 0, none⟩), t4, t5, t6, t7, t8, t9, t10, .int .i64 ((packs l).length : Int), .bool (had l h.sl), t13, u14, t15, t16, t17, t18, t19, t20, t21, t22, t23, t24, t25, t26, t27, t28, t29, t30, t31, t32, t33, t34, t35, t36, t37, t38, t39, t40, t41, t42, t43, t44, t45, t46, t47, t48, t49, t50, t51, t52, t53, t54, t55, t56, t57, t58, t59, t60, t61, t62, t63, t64, t65, t66, t67, t68, t69, t70, t71, t72, t73, t74, t75, t76, t77, t78, t79, t80, t81, t82, t83, t84, t85, t86, t87, t88, t89, t90, t91, t92, t93, t94, t95, t96, t97, t98, t99, t100, t101, t102, t103, .slice a l.length c, .int .i64 (l.length : Int), u106, u107, u108, u109, u110, u111, u112, u113, u114, u115, u116, u117, u118, u119, u120, u121, u122, u123, u124, u125, u126, u127, u128, u129, u130, u131, u132, u133, t134, t135, t136, t137, t138, t139, t140, t141, t142, t143, t144, t145, t146, t147, t148, t149, t150, t151, t152, t153, t154, t155, t156, t157, t158, t159, t160, t161, t162, t163, t164, t165, t166, t167, t168, t169, t170, t171, t172, t173, t174, t175, t176, t177, t178, t179, t180, t181, t182, t183, t184, t185, t186, t187, t188, t189, t190, t191, t192, t193, t194, t195, t196, t197, t198, t199, t200, t201, t202, t203, t204, t205, t206, t207, t208, t209, t210, t211, t212, t213, t214, t215, t216, t217, t218, t219, t220, t221, t222, t223, t224, t225, t226, t227, t228, t229, t230, t231, t232, t233, t234, t235], df⟩ W) := hQ
  have HL : Hid (HLs w (.slice a l.length c) l) := hl
  have HH : Hid (IHolds w hb 26 (hcells h)) := hh
  clear hQ hl hh
  unfold lo6
  go_wp2_with fail
  go_loopg [11, 12, 106] l.length (fun gk v11 v12 v106 wr => ∃ k : Nat, k + gk = l.length ∧ v106 = .int .i64 (k : Int) ∧ v11 = .int .i64 ((packs (l.take k)).length : Int) ∧ v12 = .bool (had (l.take k) h.sl) ∧ Below w.heap.size w wr)
  case atStart => exact ⟨0, by omega, rfl, rfl, rfl, Below.refl _ _⟩
  case round =>
    obtain ⟨k, hk, rfl, rfl, rfl, hB⟩ := hrel
    have HB : Hid (Below w.heap.size w wr) := hB
    clear hB
    by_cases hlt : k < l.length
    · have il : (k : Int) < (l.length : Int) := by omega
      obtain ⟨a', c', e, q⟩ := HL.out.of_below HB.out
      cases e
      obtain ⟨b1, o1, rfl, p0, p1, p2, p3, p4, p5⟩ := q k hlt
      have PL : (packs (l.take k)).length ≤ k := by have := packs_le (l.take k); simp at this; omega
      have PK : Hid (_ = _) := packs_take hlt
      have HK : Hid (_ = _) := had_take hlt h.sl
      generalize l[k] = x at *
      have HB2 : Hid (Below w.heap.size w (wr.alloc (.cells #[.int .i64 x.act, .string x.box, .string x.who, .string x.to_, .int .i64 x.cnt, .string x.sl] 26))) := HB.out.alloc HB.out.size _
      have w5 : wr.cell? ⟨hb, 5, none⟩ = some (.string h.sl) := (HH.out.of_below HB.out).cell 5 (by simp [hcells])
      have wl : hb ≠ wr.heap.size := by have := HH.out.lt; have := HB.out.size; omega
      have z5 := cell_keep w5 ((Below.refl _ wr).alloc (Nat.le_refl _) (.cells #[.int .i64 x.act, .string x.box, .string x.who, .string x.to_, .int .i64 x.cnt, .string x.sl] 26))
      clear q HB w5
      rcases act3 x.act with a1 | a5 | ao
      · have EP : Hid ((packs (l.take (k + 1))).length = (packs (l.take k)).length + 1) := by show _ = _; rw [PK.out, if_pos a1]
        have e1 : (x.act == 1) = true := by simp [a1]
        cases hb' : had (l.take k) h.sl with
        | true =>
          have EH : Hid (had (l.take (k + 1)) h.sl = true) := by show _ = _; rw [HK.out, hb']; rfl
          clear hb' a1
          go_wp2_with fail
          go_roundg (gk - 1)
          case measure => omega
          case rel => exact ⟨k + 1, by omega, by go_num, by rw [EP.out] <;> go_num, by rw [EH.out], HB2.out⟩
        | false =>
          by_cases hx : x.sl = h.sl
          · have EH : Hid (had (l.take (k + 1)) h.sl = true) := by show _ = _; rw [HK.out, hb']; simp [hadB, a1, hx]
            rw [hx] at p5 HB2 z5
            clear hb' hx a1
            go_wp2_with fail
            go_roundg (gk - 1)
            case measure => omega
            case rel => exact ⟨k + 1, by omega, by go_num, by rw [EP.out] <;> go_num, by rw [EH.out], HB2.out⟩
          · have EH : Hid (had (l.take (k + 1)) h.sl = false) := by show _ = _; rw [HK.out, hb']; simp [hadB, hx]
            have hx2 := str_ne hx
            clear hb' hx a1
            go_wp2_with fail
            go_roundg (gk - 1)
            case measure => omega
            case rel => exact ⟨k + 1, by omega, by go_num, by rw [EP.out] <;> go_num, by rw [EH.out], HB2.out⟩
      · have EP : Hid ((packs (l.take (k + 1))).length = (packs (l.take k)).length) := by show _ = _; rw [PK.out, if_neg (by omega)]; rfl
        have e1 : (x.act == 1) = false := by simp [a5]
        have e5 : (x.act == 5) = true := by simp [a5]
        cases hb' : had (l.take k) h.sl with
        | true =>
          have EH : Hid (had (l.take (k + 1)) h.sl = true) := by show _ = _; rw [HK.out, hb']; rfl
          clear hb' a5
          go_wp2_with fail
          go_roundg (gk - 1)
          case measure => omega
          case rel => exact ⟨k + 1, by omega, by go_num, by rw [EP.out] <;> go_num, by rw [EH.out], HB2.out⟩
        | false =>
          by_cases hx : x.sl = h.sl
          · have EH : Hid (had (l.take (k + 1)) h.sl = true) := by show _ = _; rw [HK.out, hb']; simp [hadB, a5, hx]
            rw [hx] at p5 HB2 z5
            clear hb' hx a5
            go_wp2_with fail
            go_roundg (gk - 1)
            case measure => omega
            case rel => exact ⟨k + 1, by omega, by go_num, by rw [EP.out] <;> go_num, by rw [EH.out], HB2.out⟩
          · have EH : Hid (had (l.take (k + 1)) h.sl = false) := by show _ = _; rw [HK.out, hb']; simp [hadB, hx]
            have hx2 := str_ne hx
            clear hb' hx a5
            go_wp2_with fail
            go_roundg (gk - 1)
            case measure => omega
            case rel => exact ⟨k + 1, by omega, by go_num, by rw [EP.out] <;> go_num, by rw [EH.out], HB2.out⟩
      · have EP : Hid ((packs (l.take (k + 1))).length = (packs (l.take k)).length) := by show _ = _; rw [PK.out, if_neg ao.1]; rfl
        have e1 : (x.act == 1) = false := by simp [ao.1]
        have e5 : (x.act == 5) = false := by simp [ao.2]
        cases hb' : had (l.take k) h.sl with
        | true =>
          have EH : Hid (had (l.take (k + 1)) h.sl = true) := by show _ = _; rw [HK.out, hb']; rfl
          clear hb' ao
          go_wp2_with fail
          go_roundg (gk - 1)
          case measure => omega
          case rel => exact ⟨k + 1, by omega, by go_num, by rw [EP.out] <;> go_num, by rw [EH.out], HB2.out⟩
        | false =>
          have EH : Hid (had (l.take (k + 1)) h.sl = false) := by show _ = _; rw [HK.out, hb']; simp [hadB, ao]
          clear hb' ao
          go_wp2_with fail
          go_roundg (gk - 1)
          case measure => omega
          case rel => exact ⟨k + 1, by omega, by go_num, by rw [EP.out] <;> go_num, by rw [EH.out], HB2.out⟩
    · obtain rfl : k = l.length := by omega
      have e1 : l.take l.length = l := List.take_length
      rw [e1]
      clear hlt
      go_wp2_with fail
      exact HQ.out _ _ _ _ _ _ _ _ _ _ _ _ _ _ _ _ _ _ _ _ _ _ _ _ _ _ _ _ _ _ HB.out
end Go.Proofs.Ytafekaonmpkhiaa
