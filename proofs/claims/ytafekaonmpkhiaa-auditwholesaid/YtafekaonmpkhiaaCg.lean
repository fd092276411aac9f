/- A region of hinders. -/
import Derived.Test.YtafekaonmpkhiaaCd
import Derived.Deep.RegionHeld3
set_option linter.unusedSimpArgs false
set_option linter.unusedVariables false
set_option maxRecDepth 100000
namespace Go.Proofs.Ytafekaonmpkhiaa
open Go.RowKit Go.Deep Go.PlainAid

theorem y1 {α : Type} {xs : List α} {i : Nat} (h : i < xs.toArray.size) : xs.toArray[i] = xs[i]'(by simpa using h) := List.getElem_toArray h
theorem y2 {α : Type} (a : α) (l : List α) (i : Nat) (h : i + 1 < (a :: l).length) : (a :: l)[i + 1] = l[i]'(by simpa using h) := List.getElem_cons_succ a l i h
theorem y3 {α : Type} (a : α) (l : List α) (h : 0 < (a :: l).length) : (a :: l)[0] = a := List.getElem_cons_zero a l h
theorem y4 {α : Type} {l : List α} {i : Nat} {a : α} : l.toArray.setIfInBounds i a = (l.set i a).toArray := List.setIfInBounds_toArray _ _ _
theorem y5 {α : Type} {x : α} {l : List α} {a : α} : (x :: l).set 0 a = a :: l := List.set_cons_zero
theorem y6 {α : Type} {x : α} {l : List α} {n : Nat} {a : α} : (x :: l).set (n + 1) a = x :: l.set n a := List.set_cons_succ
theorem y7 {α : Type} {xs : Array α} : xs.toList.toArray = xs := Array.toArray_toList
theorem tk {P : Program} {md : Region.Mode} {ops : Array Oper} {Q : Exit → Act → World → Prop} {S : World → Prop} {i : Nat} {oi : Oper} {v : Value} {fuel : Nat} {listed : Array Bool} {a : Act} {w : World} (hi : ops[i]? = some oi)
    (hs : (Region.noSelect ops && (Region.free md ops listed i && (Region.ready md ops listed).contains i)) = true)
    (hQ : ∀ c a w, Q (.panic c) (a.put oi.dst v) w → Q (.panic c) a w) (hw : Region.wanted oi (yielded ops a.tmps) = true) (hy : ∀ w, S w → (execOp a.eval oi).run P w = .ok (.value v) w) (hS : S w)
    (h : wpAnyH P md ops Q S fuel (listed.setIfInBounds i true) (a.put oi.dst v) w) : wpAnyH P md ops Q S (fuel + 1) listed a w := by
  simp only [Bool.and_eq_true] at hs
  exact wpAnyH_take hi hs.1 hs.2.1 hs.2.2 hQ (Or.inl ⟨hw, hy⟩) hS h
theorem tkU {P : Program} {md : Region.Mode} {ops : Array Oper} {Q : Exit → Act → World → Prop} {S : World → Prop} {i : Nat} {oi : Oper} {fuel : Nat} {listed : Array Bool} {a : Act} {w : World} (hi : ops[i]? = some oi)
    (hs : (Region.noSelect ops && (Region.free md ops listed i && (Region.ready md ops listed).contains i)) = true)
    (hQ : ∀ c a w, Q (.panic c) (a.put oi.dst undef) w → Q (.panic c) a w) (hw : Region.wanted oi (yielded ops a.tmps) = false) (hS : S w)
    (h : wpAnyH P md ops Q S fuel (listed.setIfInBounds i true) (a.put oi.dst undef) w) : wpAnyH P md ops Q S (fuel + 1) listed a w := by
  simp only [Bool.and_eq_true] at hs
  exact wpAnyH_take hi hs.1 hs.2.1 hs.2.2 hQ (Or.inr ⟨hw, rfl⟩) hS h
def rh11 : Code := Go.Code.region 11 #[{ dst := some 68, op := Go.Op.fieldAddr 51 (Go.Operand.tmp 4) 0, type := 0, pos := "box.go:114", after := #[], guard := none }, { dst := some 69, op := Go.Op.load 4 (Go.Operand.tmp 68), type := 4, pos := "box.go:114", after := #[{ on := 0, ground := Go.Ground.data }], guard := none }, { dst := some 70, op := Go.Op.unOp Go.UnOp.not 4 (Go.Operand.tmp 69), type := 4, pos := "box.go:114", after := #[{ on := 1, ground := Go.Ground.data }], guard := none }, { dst := some 71, op := Go.Op.move (Go.Operand.tmp 70), type := 4, pos := "box.go:114", after := #[{ on := 2, ground := Go.Ground.data }], guard := none }, { dst := some 72, op := Go.Op.fieldAddr 26 (Go.Operand.tmp 5) 2, type := 0, pos := "box.go:114", after := #[{ on := 3, ground := Go.Ground.guard }], guard := some (3, true) }, { dst := some 73, op := Go.Op.load 9 (Go.Operand.tmp 72), type := 9, pos := "box.go:114", after := #[{ on := 4, ground := Go.Ground.data }, { on := 3, ground := Go.Ground.guard }], guard := some (3, true) }, { dst := some 74, op := Go.Op.load 68 (Go.Operand.tmp 7), type := 68, pos := "box.go:114", after := #[{ on := 3, ground := Go.Ground.guard }], guard := some (3, true) }, { dst := some 75, op := Go.Op.call { callee := Go.Callee.value (Go.Operand.func 31), args := #[Go.Operand.tmp 74], argTypes := #[68] }, type := 9, pos := "box.go:114", after := #[{ on := 6, ground := Go.Ground.data }, { on := 3, ground := Go.Ground.chain }, { on := 3, ground := Go.Ground.guard }], guard := some (3, true) }, { dst := some 76, op := Go.Op.binOp Go.BinOp.neq 9 (Go.Operand.tmp 73) (Go.Operand.tmp 75) 9, type := 4, pos := "box.go:114", after := #[{ on := 5, ground := Go.Ground.data }, { on := 7, ground := Go.Ground.data }, { on := 3, ground := Go.Ground.guard }], guard := some (3, true) }, { dst := some 77, op := Go.Op.pick (Go.Operand.tmp 71) (Go.Operand.tmp 76) (Go.Operand.const (Go.Value.bool false)), type := 4, pos := "box.go:114", after := #[{ on := 3, ground := Go.Ground.data }, { on := 8, ground := Go.Ground.data }], guard := none }, { dst := some 67, op := Go.Op.assign (Go.Operand.tmp 77), type := 4, pos := "box.go:114", after := #[{ on := 9, ground := Go.Ground.data }, { on := 7, ground := Go.Ground.chain }], guard := none }] true
set_option maxHeartbeats 8000000 in
theorem rh11_same {wr : World} {df : List Deferred} {bh bd ub : Nat} {s2 nm r2 r3 r5 : ByteArray} {r1 r4 : Int} {Q : Exit → Act → World → Prop} {t0 t1 t2 t3 t6 t8 t9 t10 t11 t12 t13 t14 t15 t16 t17 t18 t19 t20 t21 t22 t23 t24 t25 t26 t27 t28 t29 t30 t31 t32 t33 t34 t35 t36 t37 t38 t39 t40 t41 t42 t43 t44 t45 t46 t47 t48 t49 t50 t51 t52 t53 t54 t55 t56 t57 t58 t59 t60 t61 t62 t63 t64 t65 t66 t67 t68 t69 t70 t71 t72 t73 t74 t75 t76 t77 t78 t79 t80 t81 t82 t83 t84 t85 t86 t87 t88 : Value} (h0 : wr.cell? ⟨bd, 0, none⟩ = some (.bool false)) (h1 : wr.cell? ⟨bh, 2, none⟩ = some (.string s2)) (h2 : wr.cell? ⟨ub, 0, none⟩ = some (.string nm)) (h3 : wr.cell? ⟨ub, 1, none⟩ = some (.int .i64 r1)) (h4 : wr.cell? ⟨ub, 2, none⟩ = some (.string r2)) (h5 : wr.cell? ⟨ub, 3, none⟩ = some (.string r3)) (h6 : wr.cell? ⟨ub, 4, none⟩ = some (.int .i64 r4)) (h7 : wr.cell? ⟨ub, 5, none⟩ = some (.string r5)) (hn : ∀ V, Calls Try.prog 31 #[.agg #[.string nm, .int .i64 r1, .string r2, .string r3, .int .i64 r4, .string r5]] V fun e w' => e = .returned (.string s2) ∧ Below V.heap.size V w') 
    (hQp : ∀ c a a' w, Q (.panic c) a w → Q (.panic c) a' w) (hQ : ∀ u68 u69 u70 u71 u72 u73 u74 u75 u76 u77 V9, Below wr.heap.size wr V9 → Q .normal ⟨#[t0, t1, t2, t3, .pointer (some ⟨bd, 0, none⟩), .pointer (some ⟨bh, 0, none⟩), t6, .pointer (some ⟨ub, 0, none⟩), t8, t9, t10, t11, t12, t13, t14, t15, t16, t17, t18, t19, t20, t21, t22, t23, t24, t25, t26, t27, t28, t29, t30, t31, t32, t33, t34, t35, t36, t37, t38, t39, t40, t41, t42, t43, t44, t45, t46, t47, t48, t49, t50, t51, t52, t53, t54, t55, t56, t57, t58, t59, t60, t61, t62, t63, t64, t65, t66, .bool false, u68, u69, u70, u71, u72, u73, u74, u75, u76, u77, t78, t79, t80, t81, t82, t83, t84, t85, t86, t87, t88], df⟩ (V9)) :
    rh11.wp Try.prog Q ⟨#[t0, t1, t2, t3, .pointer (some ⟨bd, 0, none⟩), .pointer (some ⟨bh, 0, none⟩), t6, .pointer (some ⟨ub, 0, none⟩), t8, t9, t10, t11, t12, t13, t14, t15, t16, t17, t18, t19, t20, t21, t22, t23, t24, t25, t26, t27, t28, t29, t30, t31, t32, t33, t34, t35, t36, t37, t38, t39, t40, t41, t42, t43, t44, t45, t46, t47, t48, t49, t50, t51, t52, t53, t54, t55, t56, t57, t58, t59, t60, t61, t62, t63, t64, t65, t66, t67, t68, t69, t70, t71, t72, t73, t74, t75, t76, t77, t78, t79, t80, t81, t82, t83, t84, t85, t86, t87, t88], df⟩ wr := by
  have HP : Hid (∀ c a a' w, Q (.panic c) a w → Q (.panic c) a' w) := hQp
  have HQ : Hid (∀ u68 u69 u70 u71 u72 u73 u74 u75 u76 u77 V9, Below wr.heap.size wr V9 → Q .normal ⟨#[t0, t1, t2, t3, .pointer (some ⟨bd, 0, none⟩), .pointer (some ⟨bh, 0, none⟩), t6, .pointer (some ⟨ub, 0, none⟩), t8, t9, t10, t11, t12, t13, t14, t15, t16, t17, t18, t19, t20, t21, t22, t23, t24, t25, t26, t27, t28, t29, t30, t31, t32, t33, t34, t35, t36, t37, t38, t39, t40, t41, t42, t43, t44, t45, t46, t47, t48, t49, t50, t51, t52, t53, t54, t55, t56, t57, t58, t59, t60, t61, t62, t63, t64, t65, t66, .bool false, u68, u69, u70, u71, u72, u73, u74, u75, u76, u77, t78, t79, t80, t81, t82, t83, t84, t85, t86, t87, t88], df⟩ (V9)) := hQ
  clear hQ hQp
  have KP : Hid (∀ V, Below wr.heap.size wr V → V.cell? ⟨bd, 0, none⟩ = some (.bool false) ∧ V.cell? ⟨bh, 2, none⟩ = some (.string s2) ∧ V.cell? ⟨ub, 0, none⟩ = some (.string nm) ∧ V.cell? ⟨ub, 1, none⟩ = some (.int .i64 r1) ∧ V.cell? ⟨ub, 2, none⟩ = some (.string r2) ∧ V.cell? ⟨ub, 3, none⟩ = some (.string r3) ∧ V.cell? ⟨ub, 4, none⟩ = some (.int .i64 r4) ∧ V.cell? ⟨ub, 5, none⟩ = some (.string r5) ∧ Below wr.heap.size wr V) := fun V hV => ⟨cell_keep h0 hV, cell_keep h1 hV, cell_keep h2 hV, cell_keep h3 hV, cell_keep h4 hV, cell_keep h5 hV, cell_keep h6 hV, cell_keep h7 hV, hV⟩
  have NX : Hid (∀ V, Calls Try.prog 31 #[.agg #[.string nm, .int .i64 r1, .string r2, .string r3, .int .i64 r4, .string r5]] V fun e w' => e = .returned (.string s2) ∧ Below V.heap.size V w') := hn
  clear hn h0 h1 h2 h3 h4 h5 h6 h7
  unfold rh11
  refine wp_region_noPanic ?_
  go_region_held3 (fun V => V.cell? ⟨bd, 0, none⟩ = some (.bool false) ∧ V.cell? ⟨bh, 2, none⟩ = some (.string s2) ∧ V.cell? ⟨ub, 0, none⟩ = some (.string nm) ∧ V.cell? ⟨ub, 1, none⟩ = some (.int .i64 r1) ∧ V.cell? ⟨ub, 2, none⟩ = some (.string r2) ∧ V.cell? ⟨ub, 3, none⟩ = some (.string r3) ∧ V.cell? ⟨ub, 4, none⟩ = some (.int .i64 r4) ∧ V.cell? ⟨ub, 5, none⟩ = some (.string r5) ∧ Below wr.heap.size wr V)
    (first | exact KP.out _ (Below.refl _ _).drew | exact KP.out _ D8.out | fail)
    (first | (refine (NX.out _).mono ?_; rintro e Y1 ⟨rfl, hB⟩; have D8 : Hid (Below wr.heap.size wr Y1) := (Below.refl wr.heap.size wr).drew.trans hB; clear hB) | fail)
  all_goals (refine NoPanic.normal ?_; exact HQ.out _ _ _ _ _ _ _ _ _ _ _ D8.out)
set_option maxHeartbeats 8000000 in
theorem rh11_other {wr : World} {df : List Deferred} {bh bd ub : Nat} {s2 nm r2 r3 r5 nx : ByteArray} {r1 r4 : Int} {Q : Exit → Act → World → Prop} {t0 t1 t2 t3 t6 t8 t9 t10 t11 t12 t13 t14 t15 t16 t17 t18 t19 t20 t21 t22 t23 t24 t25 t26 t27 t28 t29 t30 t31 t32 t33 t34 t35 t36 t37 t38 t39 t40 t41 t42 t43 t44 t45 t46 t47 t48 t49 t50 t51 t52 t53 t54 t55 t56 t57 t58 t59 t60 t61 t62 t63 t64 t65 t66 t67 t68 t69 t70 t71 t72 t73 t74 t75 t76 t77 t78 t79 t80 t81 t82 t83 t84 t85 t86 t87 t88 : Value} (h0 : wr.cell? ⟨bd, 0, none⟩ = some (.bool false)) (h1 : wr.cell? ⟨bh, 2, none⟩ = some (.string s2)) (h2 : wr.cell? ⟨ub, 0, none⟩ = some (.string nm)) (h3 : wr.cell? ⟨ub, 1, none⟩ = some (.int .i64 r1)) (h4 : wr.cell? ⟨ub, 2, none⟩ = some (.string r2)) (h5 : wr.cell? ⟨ub, 3, none⟩ = some (.string r3)) (h6 : wr.cell? ⟨ub, 4, none⟩ = some (.int .i64 r4)) (h7 : wr.cell? ⟨ub, 5, none⟩ = some (.string r5)) (hn : ∀ V, Calls Try.prog 31 #[.agg #[.string nm, .int .i64 r1, .string r2, .string r3, .int .i64 r4, .string r5]] V fun e w' => e = .returned (.string nx) ∧ Below V.heap.size V w') (he : (s2.toList == nx.toList) = false)
    (hQp : ∀ c a a' w, Q (.panic c) a w → Q (.panic c) a' w) (hQ : ∀ u68 u69 u70 u71 u72 u73 u74 u75 u76 u77 V9, Below wr.heap.size wr V9 → Q .normal ⟨#[t0, t1, t2, t3, .pointer (some ⟨bd, 0, none⟩), .pointer (some ⟨bh, 0, none⟩), t6, .pointer (some ⟨ub, 0, none⟩), t8, t9, t10, t11, t12, t13, t14, t15, t16, t17, t18, t19, t20, t21, t22, t23, t24, t25, t26, t27, t28, t29, t30, t31, t32, t33, t34, t35, t36, t37, t38, t39, t40, t41, t42, t43, t44, t45, t46, t47, t48, t49, t50, t51, t52, t53, t54, t55, t56, t57, t58, t59, t60, t61, t62, t63, t64, t65, t66, .bool true, u68, u69, u70, u71, u72, u73, u74, u75, u76, u77, t78, t79, t80, t81, t82, t83, t84, t85, t86, t87, t88], df⟩ (V9)) :
    rh11.wp Try.prog Q ⟨#[t0, t1, t2, t3, .pointer (some ⟨bd, 0, none⟩), .pointer (some ⟨bh, 0, none⟩), t6, .pointer (some ⟨ub, 0, none⟩), t8, t9, t10, t11, t12, t13, t14, t15, t16, t17, t18, t19, t20, t21, t22, t23, t24, t25, t26, t27, t28, t29, t30, t31, t32, t33, t34, t35, t36, t37, t38, t39, t40, t41, t42, t43, t44, t45, t46, t47, t48, t49, t50, t51, t52, t53, t54, t55, t56, t57, t58, t59, t60, t61, t62, t63, t64, t65, t66, t67, t68, t69, t70, t71, t72, t73, t74, t75, t76, t77, t78, t79, t80, t81, t82, t83, t84, t85, t86, t87, t88], df⟩ wr := by
  have HP : Hid (∀ c a a' w, Q (.panic c) a w → Q (.panic c) a' w) := hQp
  have HQ : Hid (∀ u68 u69 u70 u71 u72 u73 u74 u75 u76 u77 V9, Below wr.heap.size wr V9 → Q .normal ⟨#[t0, t1, t2, t3, .pointer (some ⟨bd, 0, none⟩), .pointer (some ⟨bh, 0, none⟩), t6, .pointer (some ⟨ub, 0, none⟩), t8, t9, t10, t11, t12, t13, t14, t15, t16, t17, t18, t19, t20, t21, t22, t23, t24, t25, t26, t27, t28, t29, t30, t31, t32, t33, t34, t35, t36, t37, t38, t39, t40, t41, t42, t43, t44, t45, t46, t47, t48, t49, t50, t51, t52, t53, t54, t55, t56, t57, t58, t59, t60, t61, t62, t63, t64, t65, t66, .bool true, u68, u69, u70, u71, u72, u73, u74, u75, u76, u77, t78, t79, t80, t81, t82, t83, t84, t85, t86, t87, t88], df⟩ (V9)) := hQ
  clear hQ hQp
  have KP : Hid (∀ V, Below wr.heap.size wr V → V.cell? ⟨bd, 0, none⟩ = some (.bool false) ∧ V.cell? ⟨bh, 2, none⟩ = some (.string s2) ∧ V.cell? ⟨ub, 0, none⟩ = some (.string nm) ∧ V.cell? ⟨ub, 1, none⟩ = some (.int .i64 r1) ∧ V.cell? ⟨ub, 2, none⟩ = some (.string r2) ∧ V.cell? ⟨ub, 3, none⟩ = some (.string r3) ∧ V.cell? ⟨ub, 4, none⟩ = some (.int .i64 r4) ∧ V.cell? ⟨ub, 5, none⟩ = some (.string r5) ∧ Below wr.heap.size wr V) := fun V hV => ⟨cell_keep h0 hV, cell_keep h1 hV, cell_keep h2 hV, cell_keep h3 hV, cell_keep h4 hV, cell_keep h5 hV, cell_keep h6 hV, cell_keep h7 hV, hV⟩
  have NX : Hid (∀ V, Calls Try.prog 31 #[.agg #[.string nm, .int .i64 r1, .string r2, .string r3, .int .i64 r4, .string r5]] V fun e w' => e = .returned (.string nx) ∧ Below V.heap.size V w') := hn
  clear hn h0 h1 h2 h3 h4 h5 h6 h7
  unfold rh11
  refine wp_region_noPanic ?_
  go_region_held3 (fun V => V.cell? ⟨bd, 0, none⟩ = some (.bool false) ∧ V.cell? ⟨bh, 2, none⟩ = some (.string s2) ∧ V.cell? ⟨ub, 0, none⟩ = some (.string nm) ∧ V.cell? ⟨ub, 1, none⟩ = some (.int .i64 r1) ∧ V.cell? ⟨ub, 2, none⟩ = some (.string r2) ∧ V.cell? ⟨ub, 3, none⟩ = some (.string r3) ∧ V.cell? ⟨ub, 4, none⟩ = some (.int .i64 r4) ∧ V.cell? ⟨ub, 5, none⟩ = some (.string r5) ∧ Below wr.heap.size wr V)
    (first | exact KP.out _ (Below.refl _ _).drew | exact KP.out _ D8.out | fail)
    (first | (refine (NX.out _).mono ?_; rintro e Y1 ⟨rfl, hB⟩; have D8 : Hid (Below wr.heap.size wr Y1) := (Below.refl wr.heap.size wr).drew.trans hB; clear hB) | fail)
  all_goals (refine NoPanic.normal ?_; exact HQ.out _ _ _ _ _ _ _ _ _ _ _ D8.out)
set_option maxHeartbeats 8000000 in
theorem rh11_no {wr : World} {df : List Deferred} {bd : Nat} {Q : Exit → Act → World → Prop} {t0 t1 t2 t3 t5 t6 t7 t8 t9 t10 t11 t12 t13 t14 t15 t16 t17 t18 t19 t20 t21 t22 t23 t24 t25 t26 t27 t28 t29 t30 t31 t32 t33 t34 t35 t36 t37 t38 t39 t40 t41 t42 t43 t44 t45 t46 t47 t48 t49 t50 t51 t52 t53 t54 t55 t56 t57 t58 t59 t60 t61 t62 t63 t64 t65 t66 t67 t68 t69 t70 t71 t72 t73 t74 t75 t76 t77 t78 t79 t80 t81 t82 t83 t84 t85 t86 t87 t88 : Value} (p1 : wr.drew.cell? ⟨bd, 0, none⟩ = some (.bool true))
    (hQp : ∀ c a a' w, Q (.panic c) a w → Q (.panic c) a' w) (hQ : ∀ u68 u69 u70 u71 u72 u73 u74 u75 u76 u77, Q .normal ⟨#[t0, t1, t2, t3, .pointer (some ⟨bd, 0, none⟩), t5, t6, t7, t8, t9, t10, t11, t12, t13, t14, t15, t16, t17, t18, t19, t20, t21, t22, t23, t24, t25, t26, t27, t28, t29, t30, t31, t32, t33, t34, t35, t36, t37, t38, t39, t40, t41, t42, t43, t44, t45, t46, t47, t48, t49, t50, t51, t52, t53, t54, t55, t56, t57, t58, t59, t60, t61, t62, t63, t64, t65, t66, .bool false, u68, u69, u70, u71, u72, u73, u74, u75, u76, u77, t78, t79, t80, t81, t82, t83, t84, t85, t86, t87, t88], df⟩ wr.drew) :
    rh11.wp Try.prog Q ⟨#[t0, t1, t2, t3, .pointer (some ⟨bd, 0, none⟩), t5, t6, t7, t8, t9, t10, t11, t12, t13, t14, t15, t16, t17, t18, t19, t20, t21, t22, t23, t24, t25, t26, t27, t28, t29, t30, t31, t32, t33, t34, t35, t36, t37, t38, t39, t40, t41, t42, t43, t44, t45, t46, t47, t48, t49, t50, t51, t52, t53, t54, t55, t56, t57, t58, t59, t60, t61, t62, t63, t64, t65, t66, t67, t68, t69, t70, t71, t72, t73, t74, t75, t76, t77, t78, t79, t80, t81, t82, t83, t84, t85, t86, t87, t88], df⟩ wr := by
  have HP : Hid (∀ c a a' w, Q (.panic c) a w → Q (.panic c) a' w) := hQp
  have HQ : Hid (∀ u68 u69 u70 u71 u72 u73 u74 u75 u76 u77, Q .normal ⟨#[t0, t1, t2, t3, .pointer (some ⟨bd, 0, none⟩), t5, t6, t7, t8, t9, t10, t11, t12, t13, t14, t15, t16, t17, t18, t19, t20, t21, t22, t23, t24, t25, t26, t27, t28, t29, t30, t31, t32, t33, t34, t35, t36, t37, t38, t39, t40, t41, t42, t43, t44, t45, t46, t47, t48, t49, t50, t51, t52, t53, t54, t55, t56, t57, t58, t59, t60, t61, t62, t63, t64, t65, t66, .bool false, u68, u69, u70, u71, u72, u73, u74, u75, u76, u77, t78, t79, t80, t81, t82, t83, t84, t85, t86, t87, t88], df⟩ wr.drew) := hQ
  clear hQ hQp
  unfold rh11
  refine wp_region_held_drew (S := fun V => V = wr.drew) (by kernel_rfl) rfl (fun hH0 => ?_)
  generalize wr.drew = X at *
  refine tk (i := 0) (v := .pointer (some ⟨bd, 0, none⟩)) rfl (by kernel_rfl) (fun _ _ _ h => HP.out _ _ _ _ h) (by kernel_rfl) ?_ hH0 ?_
  · intro V hS; subst hS; go_simp
  simp only [Act.put, y1, y2, y3, y4, y5, y6, y7]
  refine tk (i := 1) (v := .bool true) rfl (by kernel_rfl) (fun _ _ _ h => HP.out _ _ _ _ h) (by kernel_rfl) ?_ hH0 ?_
  · intro V hS; subst hS; go_simp
  simp only [Act.put, y1, y2, y3, y4, y5, y6, y7]
  refine tk (i := 2) (v := .bool false) rfl (by kernel_rfl) (fun _ _ _ h => HP.out _ _ _ _ h) (by kernel_rfl) ?_ hH0 ?_
  · intro V hS; subst hS; go_simp
  simp only [Act.put, y1, y2, y3, y4, y5, y6, y7]
  refine tk (i := 3) (v := .bool false) rfl (by kernel_rfl) (fun _ _ _ h => HP.out _ _ _ _ h) (by kernel_rfl) ?_ hH0 ?_
  · intro V hS; subst hS; go_simp
  simp only [Act.put, y1, y2, y3, y4, y5, y6, y7]
  refine tkU (i := 4) rfl (by kernel_rfl) (fun _ _ _ h => HP.out _ _ _ _ h) (by kernel_rfl) hH0 ?_
  simp only [Act.put, y1, y2, y3, y4, y5, y6, y7]
  refine tkU (i := 5) rfl (by kernel_rfl) (fun _ _ _ h => HP.out _ _ _ _ h) (by kernel_rfl) hH0 ?_
  simp only [Act.put, y1, y2, y3, y4, y5, y6, y7]
  refine tkU (i := 6) rfl (by kernel_rfl) (fun _ _ _ h => HP.out _ _ _ _ h) (by kernel_rfl) hH0 ?_
  simp only [Act.put, y1, y2, y3, y4, y5, y6, y7]
  refine tkU (i := 7) rfl (by kernel_rfl) (fun _ _ _ h => HP.out _ _ _ _ h) (by kernel_rfl) hH0 ?_
  simp only [Act.put, y1, y2, y3, y4, y5, y6, y7]
  refine tkU (i := 8) rfl (by kernel_rfl) (fun _ _ _ h => HP.out _ _ _ _ h) (by kernel_rfl) hH0 ?_
  simp only [Act.put, y1, y2, y3, y4, y5, y6, y7]
  refine tk (i := 9) (v := .bool false) rfl (by kernel_rfl) (fun _ _ _ h => HP.out _ _ _ _ h) (by kernel_rfl) ?_ hH0 ?_
  · intro V hS; subst hS; go_simp
  simp only [Act.put, y1, y2, y3, y4, y5, y6, y7]
  refine tk (i := 10) (v := .bool false) rfl (by kernel_rfl) (fun _ _ _ h => HP.out _ _ _ _ h) (by kernel_rfl) ?_ hH0 ?_
  · intro V hS; subst hS; go_simp
  simp only [Act.put, y1, y2, y3, y4, y5, y6, y7]
  refine wpAnyH_done (by kernel_rfl) ?_ _
  exact HQ.out _ _ _ _ _ _ _ _ _ _
end Go.Proofs.Ytafekaonmpkhiaa
