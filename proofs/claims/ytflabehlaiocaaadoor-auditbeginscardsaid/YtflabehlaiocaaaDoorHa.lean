/- The document: what came, looked at. -/
import Derived.Test.YtflabehlaiocaaaDoorGz
set_option linter.unusedSimpArgs false
set_option linter.unusedVariables false
set_option maxRecDepth 100000
namespace Go.Proofs.YtflabehlaiocaaaDoor
open Go.RowKit Go.Deep Go.PlainAid

theorem any_succ (p : Nat → Bool) (k : Nat) : (List.range (k + 1)).any p = ((List.range k).any p || p k) := by rw [List.range_succ, List.any_append]; simp
theorem any_lt {p : Nat → Bool} {k n : Nat} (hk : k < n) (h : p k = true) : (List.range n).any p = true := List.any_eq_true.2 ⟨k, List.mem_range.2 hk, h⟩
def rd0 : Code := (Go.Code.block 0 ((Go.Code.region 4 #[{ dst := some 42, op := Go.Op.binOp Go.BinOp.lss 3 (Go.Operand.tmp 41) (Go.Operand.tmp 40) 3, type := 0, pos := "ref.go:76", after := #[], guard := none }] false).seq ((Go.Code.cond (Go.Operand.tmp 42) Go.Code.skip (Go.Code.exit 0)).seq ((Go.Code.block 1 ((Go.Code.region 5 #[{ dst := some 43, op := Go.Op.move (Go.Operand.tmp 41), type := 3, pos := "ref.go:76", after := #[], guard := none }, { dst := some 44, op := Go.Op.indexAddr 22 (Go.Operand.tmp 39) (Go.Operand.tmp 41), type := 0, pos := "ref.go:76", after := #[], guard := none }, { dst := some 45, op := Go.Op.load 3 (Go.Operand.tmp 44), type := 3, pos := "ref.go:76", after := #[{ on := 1, ground := Go.Ground.data }], guard := none }, { dst := some 8, op := Go.Op.assign (Go.Operand.tmp 43), type := 3, pos := "ref.go:76", after := #[{ on := 0, ground := Go.Ground.data }, { on := 0, ground := Go.Ground.phase }, { on := 1, ground := Go.Ground.phase }, { on := 2, ground := Go.Ground.phase }], guard := none }, { dst := some 9, op := Go.Op.assign (Go.Operand.tmp 45), type := 3, pos := "ref.go:76", after := #[{ on := 2, ground := Go.Ground.data }, { on := 3, ground := Go.Ground.chain }, { on := 0, ground := Go.Ground.phase }, { on := 1, ground := Go.Ground.phase }, { on := 2, ground := Go.Ground.phase }, { on := 3, ground := Go.Ground.phase }], guard := none }] false).seq ((Go.Code.region 6 #[{ dst := some 46, op := Go.Op.move (Go.Operand.tmp 9), type := 3, pos := "ref.go:77", after := #[], guard := none }, { dst := some 47, op := Go.Op.binOp Go.BinOp.lss 3 (Go.Operand.tmp 46) (Go.Operand.const (Go.Value.int Go.IntKind.i64 0)) 3, type := 4, pos := "ref.go:77", after := #[{ on := 0, ground := Go.Ground.data }], guard := none }, { dst := some 48, op := Go.Op.move (Go.Operand.tmp 47), type := 4, pos := "ref.go:77", after := #[{ on := 1, ground := Go.Ground.data }], guard := none }, { dst := some 49, op := Go.Op.move (Go.Operand.tmp 9), type := 3, pos := "ref.go:77", after := #[{ on := 2, ground := Go.Ground.guard }], guard := some (2, false) }, { dst := some 50, op := Go.Op.move (Go.Operand.tmp 0), type := 22, pos := "ref.go:77", after := #[{ on := 2, ground := Go.Ground.guard }], guard := some (2, false) }, { dst := some 51, op := Go.Op.call { callee := Go.Callee.builtin Go.Builtin.len, args := #[Go.Operand.tmp 50], argTypes := #[22] }, type := 3, pos := "ref.go:77", after := #[{ on := 4, ground := Go.Ground.data }, { on := 2, ground := Go.Ground.guard }], guard := some (2, false) }, { dst := some 52, op := Go.Op.binOp Go.BinOp.geq 3 (Go.Operand.tmp 49) (Go.Operand.tmp 51) 3, type := 4, pos := "ref.go:77", after := #[{ on := 3, ground := Go.Ground.data }, { on := 5, ground := Go.Ground.data }, { on := 2, ground := Go.Ground.guard }], guard := some (2, false) }, { dst := some 53, op := Go.Op.pick (Go.Operand.tmp 48) (Go.Operand.const (Go.Value.bool true)) (Go.Operand.tmp 52), type := 4, pos := "ref.go:77", after := #[{ on := 2, ground := Go.Ground.data }, { on := 6, ground := Go.Ground.data }], guard := none }, { dst := some 54, op := Go.Op.move (Go.Operand.tmp 53), type := 4, pos := "ref.go:77", after := #[{ on := 7, ground := Go.Ground.data }, { on := 2, ground := Go.Ground.chain }], guard := none }, { dst := some 55, op := Go.Op.move (Go.Operand.tmp 1), type := 22, pos := "ref.go:77", after := #[{ on := 8, ground := Go.Ground.guard }], guard := some (8, false) }, { dst := some 56, op := Go.Op.move (Go.Operand.tmp 8), type := 3, pos := "ref.go:77", after := #[{ on := 8, ground := Go.Ground.guard }], guard := some (8, false) }, { dst := some 57, op := Go.Op.slice 22 (Go.Operand.tmp 55) none (some (Go.Operand.tmp 56)) none, type := 22, pos := "ref.go:77", after := #[{ on := 9, ground := Go.Ground.data }, { on := 10, ground := Go.Ground.data }, { on := 8, ground := Go.Ground.guard }], guard := some (8, false) }, { dst := some 58, op := Go.Op.move (Go.Operand.tmp 9), type := 3, pos := "ref.go:77", after := #[{ on := 8, ground := Go.Ground.guard }], guard := some (8, false) }, { dst := some 59, op := Go.Op.call { callee := Go.Callee.value (Go.Operand.func 13), args := #[Go.Operand.tmp 57, Go.Operand.tmp 58], argTypes := #[22, 3] }, type := 4, pos := "ref.go:77", after := #[{ on := 11, ground := Go.Ground.data }, { on := 12, ground := Go.Ground.data }, { on := 8, ground := Go.Ground.chain }, { on := 8, ground := Go.Ground.guard }], guard := some (8, false) }, { dst := some 60, op := Go.Op.pick (Go.Operand.tmp 54) (Go.Operand.const (Go.Value.bool true)) (Go.Operand.tmp 59), type := 4, pos := "ref.go:77", after := #[{ on := 8, ground := Go.Ground.data }, { on := 13, ground := Go.Ground.data }], guard := none }] false).seq (Go.Code.cond (Go.Operand.tmp 60) ((Go.Code.region 7 #[{ dst := some 61, op := Go.Op.build 27 #[], type := 27, pos := "ref.go:78", after := #[], guard := none }, { dst := none, op := Go.Op.store 27 (Go.Operand.tmp 6) (Go.Operand.tmp 61), type := 0, pos := "ref.go:78", after := #[{ on := 0, ground := Go.Ground.data }, { on := 0, ground := Go.Ground.phase }], guard := none }, { dst := some 7, op := Go.Op.assign (Go.Operand.const (Go.Value.int Go.IntKind.i64 2)), type := 28, pos := "ref.go:78", after := #[{ on := 1, ground := Go.Ground.chain }, { on := 0, ground := Go.Ground.phase }, { on := 1, ground := Go.Ground.phase }], guard := none }] false).seq Go.Code.ret) Go.Code.skip)))).seq (Go.Code.region 8 #[{ dst := some 62, op := Go.Op.binOp Go.BinOp.add 3 (Go.Operand.tmp 41) (Go.Operand.const (Go.Value.int Go.IntKind.i64 1)) 3, type := 3, pos := "ref.go:76", after := #[], guard := none }, { dst := some 41, op := Go.Op.move (Go.Operand.tmp 62), type := 3, pos := "ref.go:76", after := #[{ on := 0, ground := Go.Ground.data }], guard := none }] false)))).loop)
set_option maxHeartbeats 16000000 in
theorem rd0_wp {w wr : World} {df : List Deferred} {tr tx ct cw N : Nat} {n d : ByteArray} {at_ aw : Option Addr} {ws : List Int} {Q : Exit → Act → World → Prop} {t2 t3 t4 t5 t8 t9 t10 t11 t12 t13 t14 t15 t16 t17 t18 t19 t20 t21 t22 t23 t24 t25 t26 t27 t28 t29 t30 t31 t32 t33 t34 t35 t36 t37 t38 t42 t43 t44 t45 t46 t47 t48 t49 t50 t51 t52 t53 t54 t55 t56 t57 t58 t59 t60 t61 t62 t63 t64 t65 t66 t67 t68 t69 t70 t71 t72 t73 t74 t75 t76 t77 t78 t79 t80 t81 t82 t83 t84 t85 t86 t87 t88 t89 t90 t91 t92 t93 t94 t95 t96 t97 t98 t99 t100 t101 t102 t103 t104 t105 t106 t107 t108 t109 t110 t111 t112 t113 t114 t115 t116 t117 t118 t119 t120 t121 t122 t123 t124 t125 t126 t127 t128 t129 t130 t131 t132 t133 t134 t135 t136 t137 t138 t139 t140 t141 t142 t143 t144 t145 t146 t147 t148 : Value}
    (hw : IL w aw ws) (hN : N ≤ 4000) (hwc : ws.length ≤ cw) (hw9 : cw < 9223372036854775808) (hJ : IHolds wr tr 27 [.slice none 0 0, .slice none 0 0, .slice none 0 0, .slice none 0 0, .string ⟨#[]⟩, .string ⟨#[]⟩, .int .i64 0]) (hX : IHolds wr tx 24 [.string n, .string d]) (hB : Below w.heap.size w wr) (htr : w.heap.size ≤ tr)
    (hQ : (((List.range ws.length).any (wrB N ws)) = false) → ∀ u8 u9 u41 u42 u43 u44 u45 u46 u47 u48 u49 u50 u51 u52 u53 u54 u55 u56 u57 u58 u59 u60 u61 u62 W, IHolds W tr 27 [.slice none 0 0, .slice none 0 0, .slice none 0 0, .slice none 0 0, .string ⟨#[]⟩, .string ⟨#[]⟩, .int .i64 0] → IHolds W tx 24 [.string n, .string d] → Below w.heap.size w W → Q .normal ⟨#[.slice at_ N ct, .slice aw ws.length cw, t2, t3, t4, t5, .pointer (some ⟨tr, 0, none⟩), .int .i64 0, u8, u9, t10, t11, t12, t13, t14, t15, t16, t17, t18, t19, t20, t21, t22, t23, t24, t25, t26, t27, t28, t29, t30, t31, t32, t33, t34, t35, t36, t37, t38, .slice aw ws.length cw, .int .i64 (ws.length : Int), u41, u42, u43, u44, u45, u46, u47, u48, u49, u50, u51, u52, u53, u54, u55, u56, u57, u58, u59, u60, u61, u62, t63, t64, t65, t66, t67, t68, t69, t70, t71, t72, t73, t74, t75, t76, t77, t78, t79, t80, t81, t82, t83, t84, t85, t86, t87, t88, t89, t90, t91, t92, t93, t94, t95, t96, t97, t98, t99, t100, t101, t102, t103, t104, t105, t106, t107, t108, t109, t110, t111, t112, t113, t114, t115, t116, t117, t118, t119, t120, t121, t122, t123, t124, t125, t126, t127, t128, t129, t130, t131, t132, t133, t134, t135, t136, t137, t138, t139, t140, t141, t142, t143, t144, t145, t146, t147, t148], df⟩ W)
    (hR : (((List.range ws.length).any (wrB N ws)) = true) → ∀ u8 u9 u41 u42 u43 u44 u45 u46 u47 u48 u49 u50 u51 u52 u53 u54 u55 u56 u57 u58 u59 u60 u61 u62 W, IHolds W tr 27 [.slice none 0 0, .slice none 0 0, .slice none 0 0, .slice none 0 0, .string ⟨#[]⟩, .string ⟨#[]⟩, .int .i64 0] → Below w.heap.size w W → Q .ret ⟨#[.slice at_ N ct, .slice aw ws.length cw, t2, t3, t4, t5, .pointer (some ⟨tr, 0, none⟩), .int .i64 2, u8, u9, t10, t11, t12, t13, t14, t15, t16, t17, t18, t19, t20, t21, t22, t23, t24, t25, t26, t27, t28, t29, t30, t31, t32, t33, t34, t35, t36, t37, t38, .slice aw ws.length cw, .int .i64 (ws.length : Int), u41, u42, u43, u44, u45, u46, u47, u48, u49, u50, u51, u52, u53, u54, u55, u56, u57, u58, u59, u60, u61, u62, t63, t64, t65, t66, t67, t68, t69, t70, t71, t72, t73, t74, t75, t76, t77, t78, t79, t80, t81, t82, t83, t84, t85, t86, t87, t88, t89, t90, t91, t92, t93, t94, t95, t96, t97, t98, t99, t100, t101, t102, t103, t104, t105, t106, t107, t108, t109, t110, t111, t112, t113, t114, t115, t116, t117, t118, t119, t120, t121, t122, t123, t124, t125, t126, t127, t128, t129, t130, t131, t132, t133, t134, t135, t136, t137, t138, t139, t140, t141, t142, t143, t144, t145, t146, t147, t148], df⟩ W) :
    rd0.wp Tryd.prog Q ⟨#[.slice at_ N ct, .slice aw ws.length cw, t2, t3, t4, t5, .pointer (some ⟨tr, 0, none⟩), .int .i64 0, t8, t9, t10, t11, t12, t13, t14, t15, t16, t17, t18, t19, t20, t21, t22, t23, t24, t25, t26, t27, t28, t29, t30, t31, t32, t33, t34, t35, t36, t37, t38, .slice aw ws.length cw, .int .i64 (ws.length : Int), .int .i64 0, t42, t43, t44, t45, t46, t47, t48, t49, t50, t51, t52, t53, t54, t55, t56, t57, t58, t59, t60, t61, t62, t63, t64, t65, t66, t67, t68, t69, t70, t71, t72, t73, t74, t75, t76, t77, t78, t79, t80, t81, t82, t83, t84, t85, t86, t87, t88, t89, t90, t91, t92, t93, t94, t95, t96, t97, t98, t99, t100, t101, t102, t103, t104, t105, t106, t107, t108, t109, t110, t111, t112, t113, t114, t115, t116, t117, t118, t119, t120, t121, t122, t123, t124, t125, t126, t127, t128, t129, t130, t131, t132, t133, t134, t135, t136, t137, t138, t139, t140, t141, t142, t143, t144, t145, t146, t147, t148], df⟩ wr := by
  have HQ : Hid ((((List.range ws.length).any (wrB N ws)) = false) → ∀ u8 u9 u41 u42 u43 u44 u45 u46 u47 u48 u49 u50 u51 u52 u53 u54 u55 u56 u57 u58 u59 u60 u61 u62 W, IHolds W tr 27 [.slice none 0 0, .slice none 0 0, .slice none 0 0, .slice none 0 0, .string ⟨#[]⟩, .string ⟨#[]⟩, .int .i64 0] → IHolds W tx 24 [.string n, .string d] → Below w.heap.size w W → Q .normal ⟨#[.slice at_ N ct, .slice aw ws.length cw, t2, t3, t4, t5, .pointer (some ⟨tr, 0, none⟩), .int .i64 0, u8, u9, t10, t11, t12, t13, t14, t15, t16, t17, t18, t19, t20, t21, t22, t23, t24, t25, t26, t27, t28, t29, t30, t31, t32, t33, t34, t35, t36, t37, t38, .slice aw ws.length cw, .int .i64 (ws.length : Int), u41, u42, u43, u44, u45, u46, u47, u48, u49, u50, u51, u52, u53, u54, u55, u56, u57, u58, u59, u60, u61, u62, t63, t64, t65, t66, t67, t68, t69, t70, t71, t72, t73, t74, t75, t76, t77, t78, t79, t80, t81, t82, t83, t84, t85, t86, t87, t88, t89, t90, t91, t92, t93, t94, t95, t96, t97, t98, t99, t100, t101, t102, t103, t104, t105, t106, t107, t108, t109, t110, t111, t112, t113, t114, t115, t116, t117, t118, t119, t120, t121, t122, t123, t124, t125, t126, t127, t128, t129, t130, t131, t132, t133, t134, t135, t136, t137, t138, t139, t140, t141, t142, t143, t144, t145, t146, t147, t148], df⟩ W) := hQ
  have HR : Hid ((((List.range ws.length).any (wrB N ws)) = true) → ∀ u8 u9 u41 u42 u43 u44 u45 u46 u47 u48 u49 u50 u51 u52 u53 u54 u55 u56 u57 u58 u59 u60 u61 u62 W, IHolds W tr 27 [.slice none 0 0, .slice none 0 0, .slice none 0 0, .slice none 0 0, .string ⟨#[]⟩, .string ⟨#[]⟩, .int .i64 0] → Below w.heap.size w W → Q .ret ⟨#[.slice at_ N ct, .slice aw ws.length cw, t2, t3, t4, t5, .pointer (some ⟨tr, 0, none⟩), .int .i64 2, u8, u9, t10, t11, t12, t13, t14, t15, t16, t17, t18, t19, t20, t21, t22, t23, t24, t25, t26, t27, t28, t29, t30, t31, t32, t33, t34, t35, t36, t37, t38, .slice aw ws.length cw, .int .i64 (ws.length : Int), u41, u42, u43, u44, u45, u46, u47, u48, u49, u50, u51, u52, u53, u54, u55, u56, u57, u58, u59, u60, u61, u62, t63, t64, t65, t66, t67, t68, t69, t70, t71, t72, t73, t74, t75, t76, t77, t78, t79, t80, t81, t82, t83, t84, t85, t86, t87, t88, t89, t90, t91, t92, t93, t94, t95, t96, t97, t98, t99, t100, t101, t102, t103, t104, t105, t106, t107, t108, t109, t110, t111, t112, t113, t114, t115, t116, t117, t118, t119, t120, t121, t122, t123, t124, t125, t126, t127, t128, t129, t130, t131, t132, t133, t134, t135, t136, t137, t138, t139, t140, t141, t142, t143, t144, t145, t146, t147, t148], df⟩ W) := hR
  have HW : Hid (IL w aw ws) := hw
  have HTR : Hid (w.heap.size ≤ tr) := htr
  have J0 : Hid (IHolds wr tr 27 [.slice none 0 0, .slice none 0 0, .slice none 0 0, .slice none 0 0, .string ⟨#[]⟩, .string ⟨#[]⟩, .int .i64 0]) := hJ
  have B0 : Hid (Below w.heap.size w wr) := hB
  have X0 : Hid (IHolds wr tx 24 [.string n, .string d]) := hX
  have LN : ws.length < 9223372036854775808 := by omega
  have CC : Hid (ws.length ≤ cw) := hwc
  clear hQ hR hw hJ hB hX htr hwc
  unfold rd0
  go_wp2_with fail
  go_loopg [7, 41] ws.length (fun gk v7 v41 wr => ∃ k : Nat, k + gk = ws.length ∧ v7 = .int .i64 0 ∧ v41 = .int .i64 (k : Int) ∧ IHolds wr tr 27 [.slice none 0 0, .slice none 0 0, .slice none 0 0, .slice none 0 0, .string ⟨#[]⟩, .string ⟨#[]⟩, .int .i64 0] ∧ Below w.heap.size w wr ∧ IHolds wr tx 24 [.string n, .string d] ∧ (List.range k).any (wrB N ws) = false)
  case atStart => exact ⟨0, by omega, rfl, rfl, J0.out, B0.out, X0.out, rfl⟩
  case round =>
    clear J0 B0 X0
    obtain ⟨k, hk, rfl, rfl, hJ, hB, hX, hG⟩ := hrel
    have X : Hid (IHolds wr tx 24 [.string n, .string d]) := hX
    have J : Hid (IHolds wr tr 27 [.slice none 0 0, .slice none 0 0, .slice none 0 0, .slice none 0 0, .string ⟨#[]⟩, .string ⟨#[]⟩, .int .i64 0]) := hJ
    have B : Hid (Below w.heap.size w wr) := hB
    have G : Hid ((List.range k).any (wrB N ws) = false) := hG
    clear hJ hB hX hG
    by_cases hlt : k < ws.length
    · have il : (k : Int) < (ws.length : Int) := by omega
      obtain ⟨b, o, rfl, q⟩ := (HW.out.of_below B.out) k hlt
      have kc : (k : Int) ≤ (cw : Int) := by have := CC.out; omega
      have c0 : cw ≠ 0 := by have := CC.out; omega
      have EX : Hid (wrB N ws k = (!wiB ws[k] 0 ((N : Int) - 1) || (ws.take k).any fun y => ws[k] == y)) := by
        show _ = _
        have e : ws.getD k 0 = ws[k] := by simp [hlt]
        unfold wrB
        rw [e]
      have HX : Hid (wrB N ws k = true → (List.range ws.length).any (wrB N ws) = true) := fun h => any_lt hlt h
      have HY : Hid (wrB N ws k = false → (List.range (k + 1)).any (wrB N ws) = false) := fun h => by rw [any_succ, G.out, h]; rfl
      have H13 : Hid (∀ x, Calls Tryd.prog 13 #[.slice (some ⟨b, o, none⟩) k cw, .int .i64 x] wr fun e w' => e = .returned (.bool ((ws.take k).any fun y => x == y)) ∧ Hid (w' = wr)) := fun x => by
        have h := in13 (x := x) (c := cw) ((HW.out.of_below B.out).take k) (by simp; omega)
        have e : (ws.take k).length = k := by simp; omega
        rw [e] at h
        exact h.mono (fun e w' h => ⟨h.1, h.2⟩)
      generalize ws[k] = x at *
      by_cases x0 : x < 0
      · have HB : Hid ((List.range ws.length).any (wrB N ws) = true) := HX.out (by rw [EX.out]; have : wiB x 0 ((N : Int) - 1) = false := by (unfold wiB; simp; omega)
                                                                                   rw [this]; rfl)
        clear HX HY EX G H13
        obtain ⟨e0, e1, e2, e3, e4, e5, e6⟩ := seven (W := wr) (b := tr) (t := 27) J.out
        have f0 : ∀ i, wr.frozen? ⟨tr, i, none⟩ = false := fun i => IHolds.frozen (w := wr) (b := tr) (t := 27) (l := [.slice none 0 0, .slice none 0 0, .slice none 0 0, .slice none 0 0, .string ⟨#[]⟩, .string ⟨#[]⟩, .int .i64 0]) J.out i
        obtain ⟨I7, -, L7⟩ := set7 (w := w) (W := wr) (y1 := .slice none 0 0) (y2 := .slice none 0 0) (y3 := .slice none 0 0) (y4 := .slice none 0 0) (y5 := .string ⟨#[]⟩) (y6 := .string ⟨#[]⟩) (y7 := .int .i64 0) J.out B.out HTR.out
        have I7' : Hid _ := I7
        have L7' : Hid _ := L7
        clear I7 L7 J B
        go_wp2_with fail
        exact HR.out HB.out _ _ _ _ _ _ _ _ _ _ _ _ _ _ _ _ _ _ _ _ _ _ _ _ _ I7'.out L7'.out
      · by_cases xN : (N : Int) ≤ x
        · have HB : Hid ((List.range ws.length).any (wrB N ws) = true) := HX.out (by rw [EX.out]; have : wiB x 0 ((N : Int) - 1) = false := by (unfold wiB; simp; omega)
                                                                                     rw [this]; rfl)
          clear HX HY EX G H13
          obtain ⟨e0, e1, e2, e3, e4, e5, e6⟩ := seven (W := wr) (b := tr) (t := 27) J.out
          have f0 : ∀ i, wr.frozen? ⟨tr, i, none⟩ = false := fun i => IHolds.frozen (w := wr) (b := tr) (t := 27) (l := [.slice none 0 0, .slice none 0 0, .slice none 0 0, .slice none 0 0, .string ⟨#[]⟩, .string ⟨#[]⟩, .int .i64 0]) J.out i
          obtain ⟨I7, -, L7⟩ := set7 (w := w) (W := wr) (y1 := .slice none 0 0) (y2 := .slice none 0 0) (y3 := .slice none 0 0) (y4 := .slice none 0 0) (y5 := .string ⟨#[]⟩) (y6 := .string ⟨#[]⟩) (y7 := .int .i64 0) J.out B.out HTR.out
          have I7' : Hid _ := I7
          have L7' : Hid _ := L7
          clear I7 L7 J B
          go_wp2_with fail
          exact HR.out HB.out _ _ _ _ _ _ _ _ _ _ _ _ _ _ _ _ _ _ _ _ _ _ _ _ _ I7'.out L7'.out
        · have hwi : wiB x 0 ((N : Int) - 1) = true := by unfold wiB; simp; omega
          rw [hwi] at EX
          clear hwi
          cases ha : (ws.take k).any fun y => x == y with
          | true =>
            have HB : Hid ((List.range ws.length).any (wrB N ws) = true) := HX.out (by rw [EX.out, ha]; rfl)
            have HC1 : Hid (Calls Tryd.prog 13 #[.slice (some ⟨b, o, none⟩) k cw, .int .i64 x] wr fun e w' => e = .returned (.bool true) ∧ Hid (w' = wr)) := by
              have q := H13.out x
              rw [ha] at q
              exact q
            clear HX HY EX G H13 ha
            obtain ⟨e0, e1, e2, e3, e4, e5, e6⟩ := seven (W := wr) (b := tr) (t := 27) J.out
            have f0 : ∀ i, wr.frozen? ⟨tr, i, none⟩ = false := fun i => IHolds.frozen (w := wr) (b := tr) (t := 27) (l := [.slice none 0 0, .slice none 0 0, .slice none 0 0, .slice none 0 0, .string ⟨#[]⟩, .string ⟨#[]⟩, .int .i64 0]) J.out i
            obtain ⟨I7, -, L7⟩ := set7 (w := w) (W := wr) (y1 := .slice none 0 0) (y2 := .slice none 0 0) (y3 := .slice none 0 0) (y4 := .slice none 0 0) (y5 := .string ⟨#[]⟩) (y6 := .string ⟨#[]⟩) (y7 := .int .i64 0) J.out B.out HTR.out
            have I7' : Hid _ := I7
            have L7' : Hid _ := L7
            clear I7 L7 J B
            go_wp2_with (go_at_call 13; refine HC1.out.mono ?_; rintro e V ⟨rfl, hV⟩; rw [hV.out]; clear hV)
            exact HR.out HB.out _ _ _ _ _ _ _ _ _ _ _ _ _ _ _ _ _ _ _ _ _ _ _ _ _ I7'.out L7'.out
          | false =>
            have HN : Hid (wrB N ws k = false) := by show _ = _; rw [EX.out, ha]; rfl
            have HC1 : Hid (Calls Tryd.prog 13 #[.slice (some ⟨b, o, none⟩) k cw, .int .i64 x] wr fun e w' => e = .returned (.bool false) ∧ Hid (w' = wr)) := by
              have q := H13.out x
              rw [ha] at q
              exact q
            clear HX EX G H13 ha
            go_wp2_with (go_at_call 13; refine HC1.out.mono ?_; rintro e V ⟨rfl, hV⟩; rw [hV.out]; clear hV)
            go_roundg (gk - 1)
            case measure => omega
            case rel => exact ⟨k + 1, by omega, by go_num, by go_num, J.out, B.out, X.out, HY.out HN.out⟩
    · obtain rfl : k = ws.length := by omega
      clear hlt
      go_wp2_with fail
      exact HQ.out G.out _ _ _ _ _ _ _ _ _ _ _ _ _ _ _ _ _ _ _ _ _ _ _ _ _ J.out X.out B.out
def rd2 : Code := (Go.Code.block 2 ((Go.Code.region 10 #[{ dst := some 66, op := Go.Op.binOp Go.BinOp.lss 3 (Go.Operand.tmp 65) (Go.Operand.tmp 64) 3, type := 0, pos := "ref.go:81", after := #[], guard := none }] false).seq ((Go.Code.cond (Go.Operand.tmp 66) Go.Code.skip (Go.Code.exit 2)).seq ((Go.Code.block 3 ((Go.Code.region 11 #[{ dst := some 67, op := Go.Op.indexAddr 22 (Go.Operand.tmp 63) (Go.Operand.tmp 65), type := 0, pos := "ref.go:81", after := #[], guard := none }, { dst := some 68, op := Go.Op.load 3 (Go.Operand.tmp 67), type := 3, pos := "ref.go:81", after := #[{ on := 0, ground := Go.Ground.data }], guard := none }, { dst := some 11, op := Go.Op.assign (Go.Operand.tmp 68), type := 3, pos := "ref.go:81", after := #[{ on := 1, ground := Go.Ground.data }, { on := 0, ground := Go.Ground.phase }, { on := 1, ground := Go.Ground.phase }], guard := none }] false).seq ((Go.Code.region 12 #[{ dst := some 69, op := Go.Op.move (Go.Operand.tmp 11), type := 3, pos := "ref.go:82", after := #[], guard := none }, { dst := some 70, op := Go.Op.binOp Go.BinOp.lss 3 (Go.Operand.tmp 69) (Go.Operand.const (Go.Value.int Go.IntKind.i64 0)) 3, type := 4, pos := "ref.go:82", after := #[{ on := 0, ground := Go.Ground.data }], guard := none }, { dst := some 71, op := Go.Op.move (Go.Operand.tmp 70), type := 4, pos := "ref.go:82", after := #[{ on := 1, ground := Go.Ground.data }], guard := none }, { dst := some 72, op := Go.Op.move (Go.Operand.tmp 11), type := 3, pos := "ref.go:82", after := #[{ on := 2, ground := Go.Ground.guard }], guard := some (2, false) }, { dst := some 73, op := Go.Op.binOp Go.BinOp.gtr 3 (Go.Operand.tmp 72) (Go.Operand.const (Go.Value.int Go.IntKind.i64 1048576)) 3, type := 4, pos := "ref.go:82", after := #[{ on := 3, ground := Go.Ground.data }, { on := 2, ground := Go.Ground.guard }], guard := some (2, false) }, { dst := some 74, op := Go.Op.pick (Go.Operand.tmp 71) (Go.Operand.const (Go.Value.bool true)) (Go.Operand.tmp 73), type := 4, pos := "ref.go:82", after := #[{ on := 2, ground := Go.Ground.data }, { on := 4, ground := Go.Ground.data }], guard := none }] false).seq (Go.Code.cond (Go.Operand.tmp 74) ((Go.Code.region 13 #[{ dst := some 75, op := Go.Op.build 27 #[], type := 27, pos := "ref.go:83", after := #[], guard := none }, { dst := none, op := Go.Op.store 27 (Go.Operand.tmp 6) (Go.Operand.tmp 75), type := 0, pos := "ref.go:83", after := #[{ on := 0, ground := Go.Ground.data }, { on := 0, ground := Go.Ground.phase }], guard := none }, { dst := some 7, op := Go.Op.assign (Go.Operand.const (Go.Value.int Go.IntKind.i64 4)), type := 28, pos := "ref.go:83", after := #[{ on := 1, ground := Go.Ground.chain }, { on := 0, ground := Go.Ground.phase }, { on := 1, ground := Go.Ground.phase }], guard := none }] false).seq Go.Code.ret) Go.Code.skip)))).seq (Go.Code.region 14 #[{ dst := some 76, op := Go.Op.binOp Go.BinOp.add 3 (Go.Operand.tmp 65) (Go.Operand.const (Go.Value.int Go.IntKind.i64 1)) 3, type := 3, pos := "ref.go:81", after := #[], guard := none }, { dst := some 65, op := Go.Op.move (Go.Operand.tmp 76), type := 3, pos := "ref.go:81", after := #[{ on := 0, ground := Go.Ground.data }], guard := none }] false)))).loop)
set_option maxHeartbeats 16000000 in
theorem rd2_wp {w wr : World} {df : List Deferred} {tr tx ct : Nat} {n d : ByteArray} {at_ : Option Addr} {t : List Int} {Q : Exit → Act → World → Prop} {t1 t2 t3 t4 t5 t8 t9 t10 t11 t12 t13 t14 t15 t16 t17 t18 t19 t20 t21 t22 t23 t24 t25 t26 t27 t28 t29 t30 t31 t32 t33 t34 t35 t36 t37 t38 t39 t40 t41 t42 t43 t44 t45 t46 t47 t48 t49 t50 t51 t52 t53 t54 t55 t56 t57 t58 t59 t60 t61 t62 t66 t67 t68 t69 t70 t71 t72 t73 t74 t75 t76 t77 t78 t79 t80 t81 t82 t83 t84 t85 t86 t87 t88 t89 t90 t91 t92 t93 t94 t95 t96 t97 t98 t99 t100 t101 t102 t103 t104 t105 t106 t107 t108 t109 t110 t111 t112 t113 t114 t115 t116 t117 t118 t119 t120 t121 t122 t123 t124 t125 t126 t127 t128 t129 t130 t131 t132 t133 t134 t135 t136 t137 t138 t139 t140 t141 t142 t143 t144 t145 t146 t147 t148 : Value}
    (ht : IL w at_ t) (htn : t.length < 9223372036854775808) (hJ : IHolds wr tr 27 [.slice none 0 0, .slice none 0 0, .slice none 0 0, .slice none 0 0, .string ⟨#[]⟩, .string ⟨#[]⟩, .int .i64 0]) (hX : IHolds wr tx 24 [.string n, .string d]) (hB : Below w.heap.size w wr) (htr : w.heap.size ≤ tr)
    (hQ : ((t.any ntB) = false) → ∀ u11 u65 u66 u67 u68 u69 u70 u71 u72 u73 u74 u75 u76 W, IHolds W tr 27 [.slice none 0 0, .slice none 0 0, .slice none 0 0, .slice none 0 0, .string ⟨#[]⟩, .string ⟨#[]⟩, .int .i64 0] → IHolds W tx 24 [.string n, .string d] → Below w.heap.size w W → Q .normal ⟨#[.slice at_ t.length ct, t1, t2, t3, t4, t5, .pointer (some ⟨tr, 0, none⟩), .int .i64 0, t8, t9, t10, u11, t12, t13, t14, t15, t16, t17, t18, t19, t20, t21, t22, t23, t24, t25, t26, t27, t28, t29, t30, t31, t32, t33, t34, t35, t36, t37, t38, t39, t40, t41, t42, t43, t44, t45, t46, t47, t48, t49, t50, t51, t52, t53, t54, t55, t56, t57, t58, t59, t60, t61, t62, .slice at_ t.length ct, .int .i64 (t.length : Int), u65, u66, u67, u68, u69, u70, u71, u72, u73, u74, u75, u76, t77, t78, t79, t80, t81, t82, t83, t84, t85, t86, t87, t88, t89, t90, t91, t92, t93, t94, t95, t96, t97, t98, t99, t100, t101, t102, t103, t104, t105, t106, t107, t108, t109, t110, t111, t112, t113, t114, t115, t116, t117, t118, t119, t120, t121, t122, t123, t124, t125, t126, t127, t128, t129, t130, t131, t132, t133, t134, t135, t136, t137, t138, t139, t140, t141, t142, t143, t144, t145, t146, t147, t148], df⟩ W)
    (hR : ((t.any ntB) = true) → ∀ u11 u65 u66 u67 u68 u69 u70 u71 u72 u73 u74 u75 u76 W, IHolds W tr 27 [.slice none 0 0, .slice none 0 0, .slice none 0 0, .slice none 0 0, .string ⟨#[]⟩, .string ⟨#[]⟩, .int .i64 0] → Below w.heap.size w W → Q .ret ⟨#[.slice at_ t.length ct, t1, t2, t3, t4, t5, .pointer (some ⟨tr, 0, none⟩), .int .i64 4, t8, t9, t10, u11, t12, t13, t14, t15, t16, t17, t18, t19, t20, t21, t22, t23, t24, t25, t26, t27, t28, t29, t30, t31, t32, t33, t34, t35, t36, t37, t38, t39, t40, t41, t42, t43, t44, t45, t46, t47, t48, t49, t50, t51, t52, t53, t54, t55, t56, t57, t58, t59, t60, t61, t62, .slice at_ t.length ct, .int .i64 (t.length : Int), u65, u66, u67, u68, u69, u70, u71, u72, u73, u74, u75, u76, t77, t78, t79, t80, t81, t82, t83, t84, t85, t86, t87, t88, t89, t90, t91, t92, t93, t94, t95, t96, t97, t98, t99, t100, t101, t102, t103, t104, t105, t106, t107, t108, t109, t110, t111, t112, t113, t114, t115, t116, t117, t118, t119, t120, t121, t122, t123, t124, t125, t126, t127, t128, t129, t130, t131, t132, t133, t134, t135, t136, t137, t138, t139, t140, t141, t142, t143, t144, t145, t146, t147, t148], df⟩ W) :
    rd2.wp Tryd.prog Q ⟨#[.slice at_ t.length ct, t1, t2, t3, t4, t5, .pointer (some ⟨tr, 0, none⟩), .int .i64 0, t8, t9, t10, t11, t12, t13, t14, t15, t16, t17, t18, t19, t20, t21, t22, t23, t24, t25, t26, t27, t28, t29, t30, t31, t32, t33, t34, t35, t36, t37, t38, t39, t40, t41, t42, t43, t44, t45, t46, t47, t48, t49, t50, t51, t52, t53, t54, t55, t56, t57, t58, t59, t60, t61, t62, .slice at_ t.length ct, .int .i64 (t.length : Int), .int .i64 0, t66, t67, t68, t69, t70, t71, t72, t73, t74, t75, t76, t77, t78, t79, t80, t81, t82, t83, t84, t85, t86, t87, t88, t89, t90, t91, t92, t93, t94, t95, t96, t97, t98, t99, t100, t101, t102, t103, t104, t105, t106, t107, t108, t109, t110, t111, t112, t113, t114, t115, t116, t117, t118, t119, t120, t121, t122, t123, t124, t125, t126, t127, t128, t129, t130, t131, t132, t133, t134, t135, t136, t137, t138, t139, t140, t141, t142, t143, t144, t145, t146, t147, t148], df⟩ wr := by
  have HQ : Hid (((t.any ntB) = false) → ∀ u11 u65 u66 u67 u68 u69 u70 u71 u72 u73 u74 u75 u76 W, IHolds W tr 27 [.slice none 0 0, .slice none 0 0, .slice none 0 0, .slice none 0 0, .string ⟨#[]⟩, .string ⟨#[]⟩, .int .i64 0] → IHolds W tx 24 [.string n, .string d] → Below w.heap.size w W → Q .normal ⟨#[.slice at_ t.length ct, t1, t2, t3, t4, t5, .pointer (some ⟨tr, 0, none⟩), .int .i64 0, t8, t9, t10, u11, t12, t13, t14, t15, t16, t17, t18, t19, t20, t21, t22, t23, t24, t25, t26, t27, t28, t29, t30, t31, t32, t33, t34, t35, t36, t37, t38, t39, t40, t41, t42, t43, t44, t45, t46, t47, t48, t49, t50, t51, t52, t53, t54, t55, t56, t57, t58, t59, t60, t61, t62, .slice at_ t.length ct, .int .i64 (t.length : Int), u65, u66, u67, u68, u69, u70, u71, u72, u73, u74, u75, u76, t77, t78, t79, t80, t81, t82, t83, t84, t85, t86, t87, t88, t89, t90, t91, t92, t93, t94, t95, t96, t97, t98, t99, t100, t101, t102, t103, t104, t105, t106, t107, t108, t109, t110, t111, t112, t113, t114, t115, t116, t117, t118, t119, t120, t121, t122, t123, t124, t125, t126, t127, t128, t129, t130, t131, t132, t133, t134, t135, t136, t137, t138, t139, t140, t141, t142, t143, t144, t145, t146, t147, t148], df⟩ W) := hQ
  have HR : Hid (((t.any ntB) = true) → ∀ u11 u65 u66 u67 u68 u69 u70 u71 u72 u73 u74 u75 u76 W, IHolds W tr 27 [.slice none 0 0, .slice none 0 0, .slice none 0 0, .slice none 0 0, .string ⟨#[]⟩, .string ⟨#[]⟩, .int .i64 0] → Below w.heap.size w W → Q .ret ⟨#[.slice at_ t.length ct, t1, t2, t3, t4, t5, .pointer (some ⟨tr, 0, none⟩), .int .i64 4, t8, t9, t10, u11, t12, t13, t14, t15, t16, t17, t18, t19, t20, t21, t22, t23, t24, t25, t26, t27, t28, t29, t30, t31, t32, t33, t34, t35, t36, t37, t38, t39, t40, t41, t42, t43, t44, t45, t46, t47, t48, t49, t50, t51, t52, t53, t54, t55, t56, t57, t58, t59, t60, t61, t62, .slice at_ t.length ct, .int .i64 (t.length : Int), u65, u66, u67, u68, u69, u70, u71, u72, u73, u74, u75, u76, t77, t78, t79, t80, t81, t82, t83, t84, t85, t86, t87, t88, t89, t90, t91, t92, t93, t94, t95, t96, t97, t98, t99, t100, t101, t102, t103, t104, t105, t106, t107, t108, t109, t110, t111, t112, t113, t114, t115, t116, t117, t118, t119, t120, t121, t122, t123, t124, t125, t126, t127, t128, t129, t130, t131, t132, t133, t134, t135, t136, t137, t138, t139, t140, t141, t142, t143, t144, t145, t146, t147, t148], df⟩ W) := hR
  have HT : Hid (IL w at_ t) := ht
  have HTR : Hid (w.heap.size ≤ tr) := htr
  have J0 : Hid (IHolds wr tr 27 [.slice none 0 0, .slice none 0 0, .slice none 0 0, .slice none 0 0, .string ⟨#[]⟩, .string ⟨#[]⟩, .int .i64 0]) := hJ
  have B0 : Hid (Below w.heap.size w wr) := hB
  have X0 : Hid (IHolds wr tx 24 [.string n, .string d]) := hX
  clear hQ hR ht hJ hB hX htr
  unfold rd2
  go_wp2_with fail
  go_loopg [7, 65] t.length (fun gk v7 v65 wr => ∃ k : Nat, k + gk = t.length ∧ v7 = .int .i64 0 ∧ v65 = .int .i64 (k : Int) ∧ IHolds wr tr 27 [.slice none 0 0, .slice none 0 0, .slice none 0 0, .slice none 0 0, .string ⟨#[]⟩, .string ⟨#[]⟩, .int .i64 0] ∧ Below w.heap.size w wr ∧ IHolds wr tx 24 [.string n, .string d] ∧ (t.take k).any ntB = false)
  case atStart => exact ⟨0, by omega, rfl, rfl, J0.out, B0.out, X0.out, rfl⟩
  case round =>
    clear J0 B0 X0
    obtain ⟨k, hk, rfl, rfl, hJ, hB, hX, hG⟩ := hrel
    have X : Hid (IHolds wr tx 24 [.string n, .string d]) := hX
    have J : Hid (IHolds wr tr 27 [.slice none 0 0, .slice none 0 0, .slice none 0 0, .slice none 0 0, .string ⟨#[]⟩, .string ⟨#[]⟩, .int .i64 0]) := hJ
    have B : Hid (Below w.heap.size w wr) := hB
    have G : Hid ((t.take k).any ntB = false) := hG
    clear hJ hB hX hG
    by_cases hlt : k < t.length
    · have il : (k : Int) < (t.length : Int) := by omega
      obtain ⟨b, o, rfl, q⟩ := (HT.out.of_below B.out) k hlt
      have HX : Hid (ntB t[k] = true → t.any ntB = true) := fun h => List.any_eq_true.2 ⟨_, List.getElem_mem hlt, h⟩
      have HY : Hid (ntB t[k] = false → (t.take (k + 1)).any ntB = false) := fun h => by rw [List.take_succ_eq_append_getElem hlt, List.any_append, G.out]; simp [h]
      generalize t[k] = x at *
      by_cases x0 : x < 0
      · have HB : Hid (t.any ntB = true) := HX.out (by unfold ntB wiB; simp; omega)
        clear HX HY G
        obtain ⟨e0, e1, e2, e3, e4, e5, e6⟩ := seven (W := wr) (b := tr) (t := 27) J.out
        have f0 : ∀ i, wr.frozen? ⟨tr, i, none⟩ = false := fun i => IHolds.frozen (w := wr) (b := tr) (t := 27) (l := [.slice none 0 0, .slice none 0 0, .slice none 0 0, .slice none 0 0, .string ⟨#[]⟩, .string ⟨#[]⟩, .int .i64 0]) J.out i
        obtain ⟨I7, -, L7⟩ := set7 (w := w) (W := wr) (y1 := .slice none 0 0) (y2 := .slice none 0 0) (y3 := .slice none 0 0) (y4 := .slice none 0 0) (y5 := .string ⟨#[]⟩) (y6 := .string ⟨#[]⟩) (y7 := .int .i64 0) J.out B.out HTR.out
        have I7' : Hid _ := I7
        have L7' : Hid _ := L7
        clear I7 L7 J B
        go_wp2_with fail
        exact HR.out HB.out _ _ _ _ _ _ _ _ _ _ _ _ _ _ I7'.out L7'.out
      · by_cases xN : 1048576 < x
        · have HB : Hid (t.any ntB = true) := HX.out (by unfold ntB wiB; simp; omega)
          clear HX HY G
          obtain ⟨e0, e1, e2, e3, e4, e5, e6⟩ := seven (W := wr) (b := tr) (t := 27) J.out
          have f0 : ∀ i, wr.frozen? ⟨tr, i, none⟩ = false := fun i => IHolds.frozen (w := wr) (b := tr) (t := 27) (l := [.slice none 0 0, .slice none 0 0, .slice none 0 0, .slice none 0 0, .string ⟨#[]⟩, .string ⟨#[]⟩, .int .i64 0]) J.out i
          obtain ⟨I7, -, L7⟩ := set7 (w := w) (W := wr) (y1 := .slice none 0 0) (y2 := .slice none 0 0) (y3 := .slice none 0 0) (y4 := .slice none 0 0) (y5 := .string ⟨#[]⟩) (y6 := .string ⟨#[]⟩) (y7 := .int .i64 0) J.out B.out HTR.out
          have I7' : Hid _ := I7
          have L7' : Hid _ := L7
          clear I7 L7 J B
          go_wp2_with fail
          exact HR.out HB.out _ _ _ _ _ _ _ _ _ _ _ _ _ _ I7'.out L7'.out
        · have HN : Hid (ntB x = false) := by show _ = _; unfold ntB wiB; simp; omega
          clear HX G
          go_wp2_with fail
          go_roundg (gk - 1)
          case measure => omega
          case rel => exact ⟨k + 1, by omega, by go_num, by go_num, J.out, B.out, X.out, HY.out HN.out⟩
    · obtain rfl : k = t.length := by omega
      have G' : Hid (t.any ntB = false) := by have q := G.out; rw [List.take_length] at q; exact q
      clear hlt G
      go_wp2_with fail
      exact HQ.out G'.out _ _ _ _ _ _ _ _ _ _ _ _ _ _ J.out X.out B.out
end Go.Proofs.YtflabehlaiocaaaDoor
