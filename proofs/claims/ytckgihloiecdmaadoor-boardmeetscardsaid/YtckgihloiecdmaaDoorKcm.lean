/- Left, on the document's side: helps, and the region of a piece. -/
import Derived.Test.YtckgihloiecdmaaDoorMqm
set_option linter.unusedSimpArgs false
set_option linter.unusedVariables false
set_option maxRecDepth 100000
namespace Go.Proofs.YtckgihloiecdmaaDoor
open Go.RowKit Go.Deep Go.PlainAid

theorem info66 : (Tryd.prog.info? 67).map (fun i => (i.zero, i.size, i.bytes)) = some (some (.agg #[.int .i64 0, .int .i64 0, .string ⟨#[]⟩]), 3, 32) := by kernel_rfl
section
variable {P : Program}
/-- What is appended may be nothing. -/
theorem run_append_opt (w : World) (base : Nat) (t ty e : TypeId) (i : TypeInfo) (z : Value) (size bytes : Nat) (ht : P.underlying t = some (.slice e)) (hi : P.info? e = some i) (hz : i.zero = some z)
    (hsize : i.size = size) (hby : i.bytes = bytes) (hzs : z.cells.size = size) (hsz : 0 < size)
    (v : Value) (n : Nat) (xs : List Value) (hown : w.ownsRow base e size v n xs)
    (a : Option Addr) (m c : Nat) (news : List Value) (hl : news.length = m * size) (hnn : a = none → m = 0 ∧ c = 0) (hnews : ∀ ad, a = some ad → ∀ j u, news[j]? = some u → w.cell? (ad.add j) = some u) (h1 : ∀ u ∈ news, u.oneCell' = true)
    (h63 : n + m ≤ maxLen) (hbytes : (n + m) * bytes ≤ 140737488355328) (hbase : base ≤ w.heap.size) :
    ∃ v' w', (Builtin.append_ #[t, t] ty #[v, .slice a m c]).run P w = .ok v' w' ∧ w'.ownsRow base e size v' (n + m) (xs ++ news) ∧ w.grownBy w' v.ownBlock ∧
      (v' = .slice none 0 0 ↔ v = .slice none 0 0 ∧ m = 0) := by
  cases a with
  | some ad => exact run_append_own w base t ty e i z size bytes ht hi hz hsize hby hzs hsz v n xs hown ad m c news hl (hnews ad rfl) h1 h63 hbytes hbase
  | none =>
    obtain ⟨rfl, rfl⟩ := hnn rfl
    have hn : news = [] := List.eq_nil_of_length_eq_zero (by simpa using hl)
    subst hn
    rw [Nat.add_zero, List.append_nil]
    refine ⟨v, w, ?_, hown, ⟨rfl, rfl, rfl, Nat.le_refl _, fun _ _ _ => rfl⟩, by simp⟩
    obtain ⟨rfl, rfl⟩ | ⟨g, cap, cur, rfl, hbg, hg, hnc, hcm, hcs, htake⟩ := hown.2
    · simp [Builtin.append_, run_underlying ht, sizeOf, typeInfo, hi, Builtin.lenOf, Builtin.firstCells, loadCells, loadCellsFrom]
    · simp [Builtin.append_, run_underlying ht, sizeOf, typeInfo, hi, Builtin.lenOf, Builtin.firstCells, loadCells, loadCellsFrom, hnc]
      rfl
theorem wpList_append_opt {w : World} {ops : Array Oper} {rest : List Oper} {o : Oper} {a : Act} {Q : Exit → Act → World → Prop} (hgd : o.guard = none) (s x : Operand) (t : TypeId)
    (ho : o.op = .call { callee := .builtin .append, args := #[s, x], argTypes := #[t, t] })
    (base : Nat) (e : TypeId) (i : TypeInfo) (z : Value) (size bytes : Nat) (ht : P.underlying t = some (.slice e)) (hi : P.info? e = some i) (hz : i.zero = some z)
    (hsize : i.size = size) (hby : i.bytes = bytes) (hzs : z.cells.size = size) (hsz : 0 < size)
    (v : Value) (n : Nat) (xs : List Value) (hs : a.eval s = v) (hown : w.ownsRow base e size v n xs)
    (ad : Option Addr) (m c : Nat) (news : List Value) (hx : a.eval x = .slice ad m c) (hl : news.length = m * size) (hnn : ad = none → m = 0 ∧ c = 0) (hnews : ∀ ad', ad = some ad' → ∀ j u, news[j]? = some u → w.cell? (ad'.add j) = some u) (h1 : ∀ u ∈ news, u.oneCell' = true)
    (h63 : n + m ≤ maxLen) (hbytes : (n + m) * bytes ≤ 140737488355328) (hbase : base ≤ w.heap.size)
    (h : ∀ v' w', w'.ownsRow base e size v' (n + m) (xs ++ news) → w.grownBy w' v.ownBlock → (v' = .slice none 0 0 ↔ v = .slice none 0 0 ∧ m = 0) → wpList P ops Q rest (a.put o.dst v') w') : wpList P ops Q (o :: rest) a w :=
  wpList_plain hgd fun _ hK => by
    obtain ⟨v', w', hr, h2, h3, h4⟩ := run_append_opt (P := P) w base t o.type e i z size bytes ht hi hz hsize hby hzs hsz v n xs hown ad m c news hl hnn hnews h1 h63 hbytes hbase
    unfold Oper.wp execOp
    simp only [ho, resolve, invoke, builtin, Sem.run_bind, Sem.run_pure, Result.andThen_ok, List.map_toArray, List.map_cons, List.map_nil, hs, hx, hr]
    exact hK _ _ (h v' w' h2 h3 h4)
end
theorem row_formT {w : World} {base n : Nat} {t : TypeId} {s : Nat} {v : Value} {xs : List Value} (hn : 0 < n) (h : w.ownsRow base t s v n xs) :
    ∃ g cap, v = .slice (some ⟨g, 0, none⟩) n cap ∧ n ≤ cap ∧ cap ≤ maxLen ∧ base ≤ g ∧ g < w.heap.size ∧ ∀ j u, xs[j]? = some u → w.cell? ⟨g, j, none⟩ = some u := by
  obtain ⟨_, ⟨_, h0⟩ | ⟨g, cap, cur, rfl, h1, hg, h2, h3, h4, h5⟩⟩ := id h
  · omega
  · refine ⟨g, cap, rfl, h2, h3, h1, (Array.getElem?_eq_some_iff.1 hg).1, fun j u hj => ?_⟩
    have q := h.cells (g := g) rfl j u hj
    unfold Addr.add at q
    by_cases h0 : j = 0
    · subst h0; simpa using q
    · simpa [h0] using q
theorem own_ptlT {w : World} {base n : Nat} {t : TypeId} {v : Value} {l : List P3} (hn : l.length = n) (h : w.ownsRow base t 3 v n (flat3 l)) : ∃ a c, v = .slice a n c ∧ PTL w a l := by
  by_cases h0 : 0 < n
  · obtain ⟨g, cap, rfl, _, _, _, _, q⟩ := row_formT h0 h
    exact ⟨_, _, rfl, fun j u hj => ⟨g, 0, rfl, by rw [Nat.zero_add]; exact q j u hj⟩⟩
  · have e : l = [] := List.length_eq_zero_iff.1 (by omega)
    subst e
    obtain ⟨_, ⟨rfl, h0⟩ | ⟨g, cap, cur, rfl, _⟩⟩ := h
    · exact ⟨none, 0, by rw [h0], fun j u hj => by simp [flat3] at hj⟩
    · exact ⟨_, _, rfl, fun j u hj => by simp [flat3] at hj⟩
theorem row_base {w : World} {base base' n : Nat} {t : TypeId} {s : Nat} {v : Value} {xs : List Value} (h : w.ownsRow base t s v n xs) (hb : base' ≤ base) : w.ownsRow base' t s v n xs := by
  refine ⟨h.1, ?_⟩
  rcases h.2 with q | ⟨g, cap, cur, rfl, hb', r⟩
  · exact Or.inl q
  · exact Or.inr ⟨g, cap, cur, rfl, Nat.le_trans hb hb', r⟩
theorem three_newsT (w : World) (t : TypeId) (x y z : Value) : ∀ j u, [x, y, z][j]? = some u → (w.alloc (.cells #[x, y, z] t)).cell? ((⟨w.heap.size, 0, none⟩ : Addr).add j) = some u := fun j u hj => by
  have I := IHolds.new w t [x, y, z]
  have hlt := (List.getElem?_eq_some_iff.1 hj).1
  have q := I.cell j hlt
  rw [(List.getElem?_eq_some_iff.1 hj).2] at q
  unfold Addr.add
  by_cases h0 : j = 0
  · subst h0; simpa using q
  · simpa [h0] using q
def r13 : Code := .region 13 #[{ dst := some 84, op := Go.Op.move (Go.Operand.tmp 16), type := 65, pos := "ref.go:112", after := #[], guard := none }, { dst := some 85, op := Go.Op.load 36 (Go.Operand.tmp 18), type := 36, pos := "ref.go:112", after := #[], guard := none }, { dst := some 86, op := Go.Op.move (Go.Operand.tmp 15), type := 22, pos := "ref.go:112", after := #[], guard := none }, { dst := some 87, op := Go.Op.move (Go.Operand.tmp 17), type := 3, pos := "ref.go:112", after := #[], guard := none }, { dst := some 88, op := Go.Op.indexAddr 22 (Go.Operand.tmp 86) (Go.Operand.tmp 87), type := 0, pos := "ref.go:112", after := #[{ on := 2, ground := Go.Ground.data }, { on := 3, ground := Go.Ground.data }], guard := none }, { dst := some 89, op := Go.Op.load 9 (Go.Operand.tmp 88), type := 9, pos := "ref.go:112", after := #[{ on := 4, ground := Go.Ground.data }], guard := none }, { dst := some 90, op := Go.Op.build 67 #[(0, Go.Operand.tmp 85), (1, Go.Operand.tmp 89)], type := 67, pos := "ref.go:112", after := #[{ on := 1, ground := Go.Ground.data }, { on := 5, ground := Go.Ground.data }], guard := none }, { dst := some 91, op := Go.Op.buildSlice 65 1 #[(0, Go.Operand.tmp 90)], type := 65, pos := "ref.go:112", after := #[{ on := 6, ground := Go.Ground.data }], guard := none }, { dst := some 92, op := Go.Op.call { callee := Go.Callee.builtin Go.Builtin.append, args := #[Go.Operand.tmp 84, Go.Operand.tmp 91], argTypes := #[65, 65] }, type := 65, pos := "ref.go:112", after := #[{ on := 0, ground := Go.Ground.data }, { on := 7, ground := Go.Ground.data }], guard := none }, { dst := some 16, op := Go.Op.assign (Go.Operand.tmp 92), type := 65, pos := "ref.go:112", after := #[{ on := 8, ground := Go.Ground.data }, { on := 8, ground := Go.Ground.chain }, { on := 0, ground := Go.Ground.phase }, { on := 1, ground := Go.Ground.phase }, { on := 2, ground := Go.Ground.phase }, { on := 3, ground := Go.Ground.phase }, { on := 4, ground := Go.Ground.phase }, { on := 5, ground := Go.Ground.phase }, { on := 6, ground := Go.Ground.phase }, { on := 7, ground := Go.Ground.phase }, { on := 8, ground := Go.Ground.phase }], guard := none }] true
set_option maxHeartbeats 4000000 in
theorem r13_top {W : World} {n₀ Bs b o i m cD p1 p2 : Nat} {v16 : Value} {xs : List Value} {s : ByteArray} {R : Act → World → Prop} {t0 t1 t2 t3 t4 t5 t6 t7 t8 t9 t10 t11 t12 t13 t14 t19 t20 t21 t22 t23 t24 t25 t26 t27 t28 t29 t30 t31 t32 t33 t34 t35 t36 t37 t38 t39 t40 t41 t42 t43 t44 t45 t46 t47 t48 t49 t50 t51 t52 t53 t54 t55 t56 t57 t58 t59 t60 t61 t62 t63 t64 t65 t66 t67 t68 t69 t70 t71 t72 t73 t74 t75 t76 t77 t78 t79 t80 t81 t82 t83 t84 t85 t86 t87 t88 t89 t90 t91 t92 t93 t94 t95 t96 t97 t98 t99 t100 t101 t102 t103 t104 t105 t106 t107 t108 t109 t110 t111 t112 t113 t114 t115 t116 t117 t118 t119 t120 t121 t122 t123 t124 t125 t126 t127 t128 t129 t130 t131 t132 t133 t134 t135 t136 t137 t138 t139 t140 t141 t142 t143 t144 t145 t146 t147 t148 t149 t150 t151 t152 : Value}
    (k1 : (i : Int) < (m : Int)) (hk : i < 4194304) (hn₀ : n₀ ≤ W.heap.size) (hb0 : b < n₀) (hrow : W.ownsRow n₀ 67 3 v16 i xs) (bX : IHolds W Bs 36 [.int .i64 (p1 : Int), .int .i64 (p2 : Int)]) (hsc : W.cell? ⟨b, o + i, none⟩ = some (.string s))
    (hQ : ∀ V v' u84 u85 u86 u87 u88 u89 u90 u91 u92, V.ownsRow n₀ 67 3 v' (i + 1) (xs ++ [.int .i64 (p1 : Int), .int .i64 (p2 : Int), .string s]) → Below n₀ W V → R ⟨#[t0, t1, t2, t3, t4, t5, t6, t7, t8, t9, t10, t11, t12, t13, t14, .slice (some ⟨b, o, none⟩) m cD, v', .int .i64 (i : Int), .pointer (some ⟨Bs, 0, none⟩), t19, t20, t21, t22, t23, t24, t25, t26, t27, t28, t29, t30, t31, t32, t33, t34, t35, t36, t37, t38, t39, t40, t41, t42, t43, t44, t45, t46, t47, t48, t49, t50, t51, t52, t53, t54, t55, t56, t57, t58, t59, t60, t61, t62, t63, t64, t65, t66, t67, t68, t69, t70, t71, t72, t73, t74, t75, t76, t77, t78, t79, t80, t81, t82, t83, u84, u85, u86, u87, u88, u89, u90, u91, u92, t93, t94, t95, t96, t97, t98, t99, t100, t101, t102, t103, t104, t105, t106, t107, t108, t109, t110, t111, t112, t113, t114, t115, t116, t117, t118, t119, t120, t121, t122, t123, t124, t125, t126, t127, t128, t129, t130, t131, t132, t133, t134, t135, t136, t137, t138, t139, t140, t141, t142, t143, t144, t145, t146, t147, t148, t149, t150, t151, t152], []⟩ V) :
    r13.wp Tryd.prog (fun e aa ww => match e with | .normal => R aa ww | _ => False) ⟨#[t0, t1, t2, t3, t4, t5, t6, t7, t8, t9, t10, t11, t12, t13, t14, .slice (some ⟨b, o, none⟩) m cD, v16, .int .i64 (i : Int), .pointer (some ⟨Bs, 0, none⟩), t19, t20, t21, t22, t23, t24, t25, t26, t27, t28, t29, t30, t31, t32, t33, t34, t35, t36, t37, t38, t39, t40, t41, t42, t43, t44, t45, t46, t47, t48, t49, t50, t51, t52, t53, t54, t55, t56, t57, t58, t59, t60, t61, t62, t63, t64, t65, t66, t67, t68, t69, t70, t71, t72, t73, t74, t75, t76, t77, t78, t79, t80, t81, t82, t83, t84, t85, t86, t87, t88, t89, t90, t91, t92, t93, t94, t95, t96, t97, t98, t99, t100, t101, t102, t103, t104, t105, t106, t107, t108, t109, t110, t111, t112, t113, t114, t115, t116, t117, t118, t119, t120, t121, t122, t123, t124, t125, t126, t127, t128, t129, t130, t131, t132, t133, t134, t135, t136, t137, t138, t139, t140, t141, t142, t143, t144, t145, t146, t147, t148, t149, t150, t151, t152], []⟩ W := by
  have HQ : Hid (∀ V v' u84 u85 u86 u87 u88 u89 u90 u91 u92, V.ownsRow n₀ 67 3 v' (i + 1) (xs ++ [.int .i64 (p1 : Int), .int .i64 (p2 : Int), .string s]) → Below n₀ W V → R ⟨#[t0, t1, t2, t3, t4, t5, t6, t7, t8, t9, t10, t11, t12, t13, t14, .slice (some ⟨b, o, none⟩) m cD, v', .int .i64 (i : Int), .pointer (some ⟨Bs, 0, none⟩), t19, t20, t21, t22, t23, t24, t25, t26, t27, t28, t29, t30, t31, t32, t33, t34, t35, t36, t37, t38, t39, t40, t41, t42, t43, t44, t45, t46, t47, t48, t49, t50, t51, t52, t53, t54, t55, t56, t57, t58, t59, t60, t61, t62, t63, t64, t65, t66, t67, t68, t69, t70, t71, t72, t73, t74, t75, t76, t77, t78, t79, t80, t81, t82, t83, u84, u85, u86, u87, u88, u89, u90, u91, u92, t93, t94, t95, t96, t97, t98, t99, t100, t101, t102, t103, t104, t105, t106, t107, t108, t109, t110, t111, t112, t113, t114, t115, t116, t117, t118, t119, t120, t121, t122, t123, t124, t125, t126, t127, t128, t129, t130, t131, t132, t133, t134, t135, t136, t137, t138, t139, t140, t141, t142, t143, t144, t145, t146, t147, t148, t149, t150, t151, t152], []⟩ V) := hQ
  have KQ : Hid (∀ V, Below n₀ W V → Two W V → (V.cell? ⟨Bs, 0, none⟩ = some (.int .i64 (p1 : Int)) ∧ V.cell? ⟨Bs, 1, none⟩ = some (.int .i64 (p2 : Int)) ∧ V.cell? ⟨b, o + i, none⟩ = some (.string s))) := fun V hV hT => ⟨(World.cell?_of_block (a := ⟨Bs, 0, none⟩) (hT Bs _ _ bX (Or.inl rfl))).trans (bX.cell 0 (by simp)), (World.cell?_of_block (a := ⟨Bs, 1, none⟩) (hT Bs _ _ bX (Or.inl rfl))).trans (bX.cell 1 (by simp)), (hV.cell (p := ⟨b, o + i, none⟩) hb0).trans hsc⟩
  have HR : Hid (W.ownsRow n₀ 67 3 v16 i xs) := hrow
  obtain ⟨i0, hi0, hz0, hz1, hz2⟩ := info_parts info66
  clear hQ hrow bX hsc
  unfold r13
  refine wp_region_held_drew (S := fun V => V.cell? ⟨Bs, 0, none⟩ = some (.int .i64 (p1 : Int)) ∧ V.cell? ⟨Bs, 1, none⟩ = some (.int .i64 (p2 : Int)) ∧ V.cell? ⟨b, o + i, none⟩ = some (.string s)) (by kernel_rfl) (KQ.out _ (Below.refl _ _).drew (fun _ _ _ _ _ => rfl)) (fun hH0 => ?_)
  have D0 : Hid (Below W.heap.size W W.drew) := (Below.refl _ W).drew
  generalize W.drew = v0 at *
  refine tk (i := 0) (v := v16) rfl (by kernel_rfl) (fun _ _ _ h => h) (by kernel_rfl) ?_ hH0 ?_
  · intro V hS; obtain ⟨q1, q2, q3⟩ := hS; go_simp; try (first | omega | exact wrapN (by omega) | go_num)
  simp only [Act.put, List.getElem_toArray, List.getElem_cons_succ, List.getElem_cons_zero, Array.toArray_toList, List.size_toArray, List.setIfInBounds_toArray, List.set_cons_zero, List.set_cons_succ]
  refine tk (i := 1) (v := .agg #[.int .i64 (p1 : Int), .int .i64 (p2 : Int)]) rfl (by kernel_rfl) (fun _ _ _ h => h) (by kernel_rfl) ?_ hH0 ?_
  · intro V hS; obtain ⟨q1, q2, q3⟩ := hS; go_simp; try (first | omega | exact wrapN (by omega) | go_num)
  simp only [Act.put, List.getElem_toArray, List.getElem_cons_succ, List.getElem_cons_zero, Array.toArray_toList, List.size_toArray, List.setIfInBounds_toArray, List.set_cons_zero, List.set_cons_succ]
  refine tk (i := 2) (v := .slice (some ⟨b, o, none⟩) m cD) rfl (by kernel_rfl) (fun _ _ _ h => h) (by kernel_rfl) ?_ hH0 ?_
  · intro V hS; obtain ⟨q1, q2, q3⟩ := hS; go_simp; try (first | omega | exact wrapN (by omega) | go_num)
  simp only [Act.put, List.getElem_toArray, List.getElem_cons_succ, List.getElem_cons_zero, Array.toArray_toList, List.size_toArray, List.setIfInBounds_toArray, List.set_cons_zero, List.set_cons_succ]
  refine tk (i := 3) (v := .int .i64 (i : Int)) rfl (by kernel_rfl) (fun _ _ _ h => h) (by kernel_rfl) ?_ hH0 ?_
  · intro V hS; obtain ⟨q1, q2, q3⟩ := hS; go_simp; try (first | omega | exact wrapN (by omega) | go_num)
  simp only [Act.put, List.getElem_toArray, List.getElem_cons_succ, List.getElem_cons_zero, Array.toArray_toList, List.size_toArray, List.setIfInBounds_toArray, List.set_cons_zero, List.set_cons_succ]
  refine tk (i := 4) (v := .pointer (some ⟨b, o + i, none⟩)) rfl (by kernel_rfl) (fun _ _ _ h => h) (by kernel_rfl) ?_ hH0 ?_
  · intro V hS; obtain ⟨q1, q2, q3⟩ := hS; go_simp; try (first | omega | exact wrapN (by omega) | go_num)
  simp only [Act.put, List.getElem_toArray, List.getElem_cons_succ, List.getElem_cons_zero, Array.toArray_toList, List.size_toArray, List.setIfInBounds_toArray, List.set_cons_zero, List.set_cons_succ]
  refine tk (i := 5) (v := .string s) rfl (by kernel_rfl) (fun _ _ _ h => h) (by kernel_rfl) ?_ hH0 ?_
  · intro V hS; obtain ⟨q1, q2, q3⟩ := hS; go_simp; try (first | omega | exact wrapN (by omega) | go_num)
  simp only [Act.put, List.getElem_toArray, List.getElem_cons_succ, List.getElem_cons_zero, Array.toArray_toList, List.size_toArray, List.setIfInBounds_toArray, List.set_cons_zero, List.set_cons_succ]
  refine tk (i := 6) (v := .agg #[.int .i64 (p1 : Int), .int .i64 (p2 : Int), .string s]) rfl (by kernel_rfl) (fun _ _ _ h => h) (by kernel_rfl) ?_ hH0 ?_
  · intro V hS; obtain ⟨q1, q2, q3⟩ := hS; go_simp; try (first | omega | exact wrapN (by omega) | go_num)
  simp only [Act.put, List.getElem_toArray, List.getElem_cons_succ, List.getElem_cons_zero, Array.toArray_toList, List.size_toArray, List.setIfInBounds_toArray, List.set_cons_zero, List.set_cons_succ]
  refine wpAnyH_ready (rs := [7]) (by kernel_rfl) (by simp) ?_
  refine AllReadyH.cons rfl (fun K hK => ?_) AllReadyH.nil
  clear hH0
  go_simp
  have D7 : Hid (Below W.heap.size W (v0.alloc (.cells #[.int .i64 (p1 : Int), .int .i64 (p2 : Int), .string s] 67))) := D0.out.trans ((nB v0 _).mono D0.out.size)
  refine hK.out _ _ (KQ.out _ (D7.out.mono hn₀) (Two.below D7.out)) (fun hH0 => ?_)
  clear hK K
  try simp only [Act.put, List.getElem_toArray, List.getElem_cons_succ, List.getElem_cons_zero, Array.toArray_toList, List.size_toArray, List.setIfInBounds_toArray, List.set_cons_zero, List.set_cons_succ]
  refine wpAnyH_ready (rs := [8]) (by kernel_rfl) (by simp) ?_
  refine AllReadyH.cons rfl (fun K hK => ?_) AllReadyH.nil
  clear hH0
  have hO8 : Hid ((v0.alloc (.cells #[.int .i64 (p1 : Int), .int .i64 (p2 : Int), .string s] 67)).ownsRow n₀ 67 3 v16 i xs) := row_keep HR.out D7.out
  refine wp_append_own _ (.tmp 84) (.tmp 91) 65 rfl n₀ 67 i0 (.agg #[.int .i64 0, .int .i64 0, .string ⟨#[]⟩]) 3 32 Tryd.underlying65 hi0 hz0 hz1 hz2 rfl (by decide) v16 i xs rfl hO8.out ⟨v0.heap.size, 0, none⟩ 1 1 [.int .i64 (p1 : Int), .int .i64 (p2 : Int), .string s] rfl rfl (three_newsT v0 _ _ _ _) (fun u hu => by simp at hu; rcases hu with rfl | rfl | rfl <;> rfl) (by unfold maxLen; omega) (by omega) (Nat.le_trans hn₀ D7.out.size) ?_
  intro v9 w9 hown hgrow hnn
  have T9 : Hid (Two W w9) := (Two.below D7.out).trans (Two.grown (by decide) hO8.out hgrow)
  have B9 : Hid (Below n₀ W w9) := (D7.out.mono hn₀).grown hgrow (Nat.le_trans hn₀ D7.out.size) (fun k hk => (hO8.out.lt k hk).1)
  have O9 : Hid (w9.ownsRow n₀ 67 3 v9 (i + 1) (xs ++ [.int .i64 (p1 : Int), .int .i64 (p2 : Int), .string s])) := hown
  clear hown hgrow hnn
  refine hK.out _ _ (KQ.out _ B9.out T9.out) (fun hH0 => ?_)
  clear hK K
  try simp only [Act.put, List.getElem_toArray, List.getElem_cons_succ, List.getElem_cons_zero, Array.toArray_toList, List.size_toArray, List.setIfInBounds_toArray, List.set_cons_zero, List.set_cons_succ]
  refine tk (i := 9) (v := v9) rfl (by kernel_rfl) (fun _ _ _ h => h) (by kernel_rfl) ?_ hH0 ?_
  · intro V hS; obtain ⟨q1, q2, q3⟩ := hS; go_simp; try (first | omega | exact wrapN (by omega) | go_num)
  simp only [Act.put, List.getElem_toArray, List.getElem_cons_succ, List.getElem_cons_zero, Array.toArray_toList, List.size_toArray, List.setIfInBounds_toArray, List.set_cons_zero, List.set_cons_succ]
  refine wpAnyH_done (by kernel_rfl) ?_ _
  exact HQ.out _ _ _ _ _ _ _ _ _ _ _ O9.out B9.out
end Go.Proofs.YtckgihloiecdmaaDoor

/- Left, on the document's side: the regions that put two together. -/
set_option linter.unusedSimpArgs false
set_option linter.unusedVariables false
set_option maxRecDepth 100000
namespace Go.Proofs.YtckgihloiecdmaaDoor
open Go.RowKit Go.Deep Go.PlainAid

def r18 : Code := .region 18 #[{ dst := some 100, op := Go.Op.move (Go.Operand.tmp 16), type := 65, pos := "ref.go:115", after := #[], guard := none }, { dst := some 101, op := Go.Op.move (Go.Operand.tmp 19), type := 3, pos := "ref.go:115", after := #[], guard := none }, { dst := some 102, op := Go.Op.indexAddr 65 (Go.Operand.tmp 100) (Go.Operand.tmp 101), type := 0, pos := "ref.go:115", after := #[{ on := 0, ground := Go.Ground.data }, { on := 1, ground := Go.Ground.data }], guard := none }, { dst := some 103, op := Go.Op.fieldAddr 67 (Go.Operand.tmp 102) 0, type := 0, pos := "ref.go:115", after := #[{ on := 2, ground := Go.Ground.data }], guard := none }, { dst := some 104, op := Go.Op.fieldAddr 36 (Go.Operand.tmp 103) 0, type := 0, pos := "ref.go:115", after := #[{ on := 3, ground := Go.Ground.data }], guard := none }, { dst := some 105, op := Go.Op.load 3 (Go.Operand.tmp 104), type := 3, pos := "ref.go:115", after := #[{ on := 4, ground := Go.Ground.data }], guard := none }, { dst := some 106, op := Go.Op.move (Go.Operand.tmp 16), type := 65, pos := "ref.go:115", after := #[], guard := none }, { dst := some 107, op := Go.Op.move (Go.Operand.tmp 19), type := 3, pos := "ref.go:115", after := #[], guard := none }, { dst := some 108, op := Go.Op.binOp Go.BinOp.add 3 (Go.Operand.tmp 107) (Go.Operand.const (Go.Value.int Go.IntKind.i64 1)) 3, type := 3, pos := "ref.go:115", after := #[{ on := 7, ground := Go.Ground.data }], guard := none }, { dst := some 109, op := Go.Op.indexAddr 65 (Go.Operand.tmp 106) (Go.Operand.tmp 108), type := 0, pos := "ref.go:115", after := #[{ on := 6, ground := Go.Ground.data }, { on := 8, ground := Go.Ground.data }], guard := none }, { dst := some 110, op := Go.Op.fieldAddr 67 (Go.Operand.tmp 109) 0, type := 0, pos := "ref.go:115", after := #[{ on := 9, ground := Go.Ground.data }], guard := none }, { dst := some 111, op := Go.Op.fieldAddr 36 (Go.Operand.tmp 110) 1, type := 0, pos := "ref.go:115", after := #[{ on := 10, ground := Go.Ground.data }], guard := none }, { dst := some 112, op := Go.Op.load 3 (Go.Operand.tmp 111), type := 3, pos := "ref.go:115", after := #[{ on := 11, ground := Go.Ground.data }], guard := none }, { dst := some 113, op := Go.Op.build 36 #[(0, Go.Operand.tmp 105), (1, Go.Operand.tmp 112)], type := 36, pos := "ref.go:115", after := #[{ on := 5, ground := Go.Ground.data }, { on := 12, ground := Go.Ground.data }], guard := none }, { dst := some 114, op := Go.Op.move (Go.Operand.tmp 16), type := 65, pos := "ref.go:115", after := #[], guard := none }, { dst := some 115, op := Go.Op.move (Go.Operand.tmp 19), type := 3, pos := "ref.go:115", after := #[], guard := none }, { dst := some 116, op := Go.Op.indexAddr 65 (Go.Operand.tmp 114) (Go.Operand.tmp 115), type := 0, pos := "ref.go:115", after := #[{ on := 14, ground := Go.Ground.data }, { on := 15, ground := Go.Ground.data }], guard := none }, { dst := some 117, op := Go.Op.fieldAddr 67 (Go.Operand.tmp 116) 1, type := 0, pos := "ref.go:115", after := #[{ on := 16, ground := Go.Ground.data }], guard := none }, { dst := some 118, op := Go.Op.load 9 (Go.Operand.tmp 117), type := 9, pos := "ref.go:115", after := #[{ on := 17, ground := Go.Ground.data }], guard := none }, { dst := some 119, op := Go.Op.move (Go.Operand.tmp 16), type := 65, pos := "ref.go:115", after := #[], guard := none }, { dst := some 120, op := Go.Op.move (Go.Operand.tmp 19), type := 3, pos := "ref.go:115", after := #[], guard := none }, { dst := some 121, op := Go.Op.binOp Go.BinOp.add 3 (Go.Operand.tmp 120) (Go.Operand.const (Go.Value.int Go.IntKind.i64 1)) 3, type := 3, pos := "ref.go:115", after := #[{ on := 20, ground := Go.Ground.data }], guard := none }, { dst := some 122, op := Go.Op.indexAddr 65 (Go.Operand.tmp 119) (Go.Operand.tmp 121), type := 0, pos := "ref.go:115", after := #[{ on := 19, ground := Go.Ground.data }, { on := 21, ground := Go.Ground.data }], guard := none }, { dst := some 123, op := Go.Op.fieldAddr 67 (Go.Operand.tmp 122) 1, type := 0, pos := "ref.go:115", after := #[{ on := 22, ground := Go.Ground.data }], guard := none }, { dst := some 124, op := Go.Op.load 9 (Go.Operand.tmp 123), type := 9, pos := "ref.go:115", after := #[{ on := 23, ground := Go.Ground.data }], guard := none }, { dst := some 125, op := Go.Op.call { callee := Go.Callee.value (Go.Operand.func 31), args := #[Go.Operand.tmp 118, Go.Operand.tmp 124], argTypes := #[9, 9] }, type := 9, pos := "ref.go:115", after := #[{ on := 18, ground := Go.Ground.data }, { on := 24, ground := Go.Ground.data }], guard := none }, { dst := some 126, op := Go.Op.build 67 #[(0, Go.Operand.tmp 113), (1, Go.Operand.tmp 125)], type := 67, pos := "ref.go:115", after := #[{ on := 13, ground := Go.Ground.data }, { on := 25, ground := Go.Ground.data }], guard := none }, { dst := some 20, op := Go.Op.alloc 67, type := 0, pos := "ref.go:115", after := #[], guard := none }, { dst := none, op := Go.Op.store 67 (Go.Operand.tmp 20) (Go.Operand.tmp 126), type := 0, pos := "ref.go:115", after := #[{ on := 27, ground := Go.Ground.data }, { on := 26, ground := Go.Ground.data }, { on := 25, ground := Go.Ground.chain }, { on := 0, ground := Go.Ground.phase }, { on := 1, ground := Go.Ground.phase }, { on := 2, ground := Go.Ground.phase }, { on := 3, ground := Go.Ground.phase }, { on := 4, ground := Go.Ground.phase }, { on := 5, ground := Go.Ground.phase }, { on := 6, ground := Go.Ground.phase }, { on := 7, ground := Go.Ground.phase }, { on := 8, ground := Go.Ground.phase }, { on := 9, ground := Go.Ground.phase }, { on := 10, ground := Go.Ground.phase }, { on := 11, ground := Go.Ground.phase }, { on := 12, ground := Go.Ground.phase }, { on := 13, ground := Go.Ground.phase }, { on := 14, ground := Go.Ground.phase }, { on := 15, ground := Go.Ground.phase }, { on := 16, ground := Go.Ground.phase }, { on := 17, ground := Go.Ground.phase }, { on := 18, ground := Go.Ground.phase }, { on := 19, ground := Go.Ground.phase }, { on := 20, ground := Go.Ground.phase }, { on := 21, ground := Go.Ground.phase }, { on := 22, ground := Go.Ground.phase }, { on := 23, ground := Go.Ground.phase }, { on := 24, ground := Go.Ground.phase }, { on := 25, ground := Go.Ground.phase }, { on := 26, ground := Go.Ground.phase }, { on := 27, ground := Go.Ground.phase }], guard := none }] true
def r19 : Code := .region 19 #[{ dst := some 127, op := Go.Op.buildSlice 65 0 #[], type := 65, pos := "ref.go:116", after := #[], guard := none }, { dst := some 128, op := Go.Op.move (Go.Operand.tmp 16), type := 65, pos := "ref.go:116", after := #[], guard := none }, { dst := some 129, op := Go.Op.move (Go.Operand.tmp 19), type := 3, pos := "ref.go:116", after := #[], guard := none }, { dst := some 130, op := Go.Op.slice 65 (Go.Operand.tmp 128) none (some (Go.Operand.tmp 129)) none, type := 65, pos := "ref.go:116", after := #[{ on := 1, ground := Go.Ground.data }, { on := 2, ground := Go.Ground.data }], guard := none }, { dst := some 131, op := Go.Op.call { callee := Go.Callee.builtin Go.Builtin.append, args := #[Go.Operand.tmp 127, Go.Operand.tmp 130], argTypes := #[65, 65] }, type := 65, pos := "ref.go:116", after := #[{ on := 0, ground := Go.Ground.data }, { on := 3, ground := Go.Ground.data }], guard := none }, { dst := some 132, op := Go.Op.load 67 (Go.Operand.tmp 20), type := 67, pos := "ref.go:116", after := #[], guard := none }, { dst := some 133, op := Go.Op.buildSlice 65 1 #[(0, Go.Operand.tmp 132)], type := 65, pos := "ref.go:116", after := #[{ on := 5, ground := Go.Ground.data }], guard := none }, { dst := some 134, op := Go.Op.call { callee := Go.Callee.builtin Go.Builtin.append, args := #[Go.Operand.tmp 131, Go.Operand.tmp 133], argTypes := #[65, 65] }, type := 65, pos := "ref.go:116", after := #[{ on := 4, ground := Go.Ground.data }, { on := 6, ground := Go.Ground.data }, { on := 4, ground := Go.Ground.chain }], guard := none }, { dst := some 135, op := Go.Op.move (Go.Operand.tmp 16), type := 65, pos := "ref.go:116", after := #[], guard := none }, { dst := some 136, op := Go.Op.move (Go.Operand.tmp 19), type := 3, pos := "ref.go:116", after := #[], guard := none }, { dst := some 137, op := Go.Op.binOp Go.BinOp.add 3 (Go.Operand.tmp 136) (Go.Operand.const (Go.Value.int Go.IntKind.i64 2)) 3, type := 3, pos := "ref.go:116", after := #[{ on := 9, ground := Go.Ground.data }], guard := none }, { dst := some 138, op := Go.Op.slice 65 (Go.Operand.tmp 135) (some (Go.Operand.tmp 137)) none none, type := 65, pos := "ref.go:116", after := #[{ on := 8, ground := Go.Ground.data }, { on := 10, ground := Go.Ground.data }], guard := none }, { dst := some 139, op := Go.Op.call { callee := Go.Callee.builtin Go.Builtin.append, args := #[Go.Operand.tmp 134, Go.Operand.tmp 138], argTypes := #[65, 65] }, type := 65, pos := "ref.go:116", after := #[{ on := 7, ground := Go.Ground.data }, { on := 11, ground := Go.Ground.data }, { on := 7, ground := Go.Ground.chain }], guard := none }, { dst := some 16, op := Go.Op.assign (Go.Operand.tmp 139), type := 65, pos := "ref.go:116", after := #[{ on := 12, ground := Go.Ground.data }, { on := 12, ground := Go.Ground.chain }, { on := 0, ground := Go.Ground.phase }, { on := 1, ground := Go.Ground.phase }, { on := 2, ground := Go.Ground.phase }, { on := 3, ground := Go.Ground.phase }, { on := 4, ground := Go.Ground.phase }, { on := 5, ground := Go.Ground.phase }, { on := 6, ground := Go.Ground.phase }, { on := 7, ground := Go.Ground.phase }, { on := 8, ground := Go.Ground.phase }, { on := 9, ground := Go.Ground.phase }, { on := 10, ground := Go.Ground.phase }, { on := 11, ground := Go.Ground.phase }, { on := 12, ground := Go.Ground.phase }], guard := none }] true
set_option maxHeartbeats 4000000 in
theorem r18_top {W : World} {g n cap i n1 a1 b2 : Nat} {f d D : ByteArray} {R : Act → World → Prop} {t0 t1 t2 t3 t4 t5 t6 t7 t8 t9 t10 t11 t12 t13 t14 t15 t17 t18 t20 t21 t22 t23 t24 t25 t26 t27 t28 t29 t30 t31 t32 t33 t34 t35 t36 t37 t38 t39 t40 t41 t42 t43 t44 t45 t46 t47 t48 t49 t50 t51 t52 t53 t54 t55 t56 t57 t58 t59 t60 t61 t62 t63 t64 t65 t66 t67 t68 t69 t70 t71 t72 t73 t74 t75 t76 t77 t78 t79 t80 t81 t82 t83 t84 t85 t86 t87 t88 t89 t90 t91 t92 t93 t94 t95 t96 t97 t98 t99 t100 t101 t102 t103 t104 t105 t106 t107 t108 t109 t110 t111 t112 t113 t114 t115 t116 t117 t118 t119 t120 t121 t122 t123 t124 t125 t126 t127 t128 t129 t130 t131 t132 t133 t134 t135 t136 t137 t138 t139 t140 t141 t142 t143 t144 t145 t146 t147 t148 t149 t150 t151 t152 : Value}
    (k0 : (i : Int) < (n : Int)) (k1 : (n1 : Int) < (n : Int)) (k2 : (i : Int) + 1 = (n1 : Int)) (k3 : IntKind.i64.wrap (n1 : Int) = (n1 : Int)) (hgW : g < W.heap.size)
    (q1 : W.cell? ⟨g, i * 3, none⟩ = some (.int .i64 (a1 : Int))) (q2 : W.cell? ⟨g, i * 3 + 2, none⟩ = some (.string f)) (q3 : W.cell? ⟨g, n1 * 3 + 1, none⟩ = some (.int .i64 (b2 : Int))) (q4 : W.cell? ⟨g, n1 * 3 + 2, none⟩ = some (.string d))
    (C : ∀ V, Below W.heap.size W V → Calls Tryd.prog 31 #[.string f, .string d] V fun e w' => e = .returned (.string D) ∧ Below V.heap.size V w')
    (hQ : ∀ V B u100 u101 u102 u103 u104 u105 u106 u107 u108 u109 u110 u111 u112 u113 u114 u115 u116 u117 u118 u119 u120 u121 u122 u123 u124 u125 u126, Below W.heap.size W V → W.heap.size ≤ B → IHolds V B 67 [.int .i64 (a1 : Int), .int .i64 (b2 : Int), .string D] → R ⟨#[t0, t1, t2, t3, t4, t5, t6, t7, t8, t9, t10, t11, t12, t13, t14, t15, .slice (some ⟨g, 0, none⟩) n cap, t17, t18, .int .i64 (i : Int), .pointer (some ⟨B, 0, none⟩), t21, t22, t23, t24, t25, t26, t27, t28, t29, t30, t31, t32, t33, t34, t35, t36, t37, t38, t39, t40, t41, t42, t43, t44, t45, t46, t47, t48, t49, t50, t51, t52, t53, t54, t55, t56, t57, t58, t59, t60, t61, t62, t63, t64, t65, t66, t67, t68, t69, t70, t71, t72, t73, t74, t75, t76, t77, t78, t79, t80, t81, t82, t83, t84, t85, t86, t87, t88, t89, t90, t91, t92, t93, t94, t95, t96, t97, t98, t99, u100, u101, u102, u103, u104, u105, u106, u107, u108, u109, u110, u111, u112, u113, u114, u115, u116, u117, u118, u119, u120, u121, u122, u123, u124, u125, u126, t127, t128, t129, t130, t131, t132, t133, t134, t135, t136, t137, t138, t139, t140, t141, t142, t143, t144, t145, t146, t147, t148, t149, t150, t151, t152], []⟩ V) :
    r18.wp Tryd.prog (fun e aa ww => match e with | .normal => R aa ww | _ => False) ⟨#[t0, t1, t2, t3, t4, t5, t6, t7, t8, t9, t10, t11, t12, t13, t14, t15, .slice (some ⟨g, 0, none⟩) n cap, t17, t18, .int .i64 (i : Int), t20, t21, t22, t23, t24, t25, t26, t27, t28, t29, t30, t31, t32, t33, t34, t35, t36, t37, t38, t39, t40, t41, t42, t43, t44, t45, t46, t47, t48, t49, t50, t51, t52, t53, t54, t55, t56, t57, t58, t59, t60, t61, t62, t63, t64, t65, t66, t67, t68, t69, t70, t71, t72, t73, t74, t75, t76, t77, t78, t79, t80, t81, t82, t83, t84, t85, t86, t87, t88, t89, t90, t91, t92, t93, t94, t95, t96, t97, t98, t99, t100, t101, t102, t103, t104, t105, t106, t107, t108, t109, t110, t111, t112, t113, t114, t115, t116, t117, t118, t119, t120, t121, t122, t123, t124, t125, t126, t127, t128, t129, t130, t131, t132, t133, t134, t135, t136, t137, t138, t139, t140, t141, t142, t143, t144, t145, t146, t147, t148, t149, t150, t151, t152], []⟩ W := by
  have HQ : Hid (∀ V B u100 u101 u102 u103 u104 u105 u106 u107 u108 u109 u110 u111 u112 u113 u114 u115 u116 u117 u118 u119 u120 u121 u122 u123 u124 u125 u126, Below W.heap.size W V → W.heap.size ≤ B → IHolds V B 67 [.int .i64 (a1 : Int), .int .i64 (b2 : Int), .string D] → R ⟨#[t0, t1, t2, t3, t4, t5, t6, t7, t8, t9, t10, t11, t12, t13, t14, t15, .slice (some ⟨g, 0, none⟩) n cap, t17, t18, .int .i64 (i : Int), .pointer (some ⟨B, 0, none⟩), t21, t22, t23, t24, t25, t26, t27, t28, t29, t30, t31, t32, t33, t34, t35, t36, t37, t38, t39, t40, t41, t42, t43, t44, t45, t46, t47, t48, t49, t50, t51, t52, t53, t54, t55, t56, t57, t58, t59, t60, t61, t62, t63, t64, t65, t66, t67, t68, t69, t70, t71, t72, t73, t74, t75, t76, t77, t78, t79, t80, t81, t82, t83, t84, t85, t86, t87, t88, t89, t90, t91, t92, t93, t94, t95, t96, t97, t98, t99, u100, u101, u102, u103, u104, u105, u106, u107, u108, u109, u110, u111, u112, u113, u114, u115, u116, u117, u118, u119, u120, u121, u122, u123, u124, u125, u126, t127, t128, t129, t130, t131, t132, t133, t134, t135, t136, t137, t138, t139, t140, t141, t142, t143, t144, t145, t146, t147, t148, t149, t150, t151, t152], []⟩ V) := hQ
  have HC : Hid (∀ V, Below W.heap.size W V → Calls Tryd.prog 31 #[.string f, .string d] V fun e w' => e = .returned (.string D) ∧ Below V.heap.size V w') := C
  have KQ : Hid (∀ V, Below W.heap.size W V → (V.cell? ⟨g, i * 3, none⟩ = some (.int .i64 (a1 : Int)) ∧ V.cell? ⟨g, i * 3 + 2, none⟩ = some (.string f) ∧ V.cell? ⟨g, n1 * 3 + 1, none⟩ = some (.int .i64 (b2 : Int)) ∧ V.cell? ⟨g, n1 * 3 + 2, none⟩ = some (.string d))) := fun V hV => ⟨cell_keep q1 hV, cell_keep q2 hV, cell_keep q3 hV, cell_keep q4 hV⟩
  clear hQ C q1 q2 q3 q4
  unfold r18
  refine wp_region_held_drew (S := fun V => V.cell? ⟨g, i * 3, none⟩ = some (.int .i64 (a1 : Int)) ∧ V.cell? ⟨g, i * 3 + 2, none⟩ = some (.string f) ∧ V.cell? ⟨g, n1 * 3 + 1, none⟩ = some (.int .i64 (b2 : Int)) ∧ V.cell? ⟨g, n1 * 3 + 2, none⟩ = some (.string d)) (by kernel_rfl) (KQ.out _ (Below.refl _ _).drew) (fun hH0 => ?_)
  have D0 : Hid (Below W.heap.size W W.drew) := (Below.refl _ W).drew
  generalize W.drew = v0 at *
  refine tk (i := 0) (v := .slice (some ⟨g, 0, none⟩) n cap) rfl (by kernel_rfl) (fun _ _ _ h => h) (by kernel_rfl) ?_ hH0 ?_
  · intro V hS; obtain ⟨q1, q2, q3, q4⟩ := hS; go_simp; try (first | omega | exact wrapN (by omega) | go_num)
  simp only [Act.put, List.getElem_toArray, List.getElem_cons_succ, List.getElem_cons_zero, Array.toArray_toList, List.size_toArray, List.setIfInBounds_toArray, List.set_cons_zero, List.set_cons_succ]
  refine tk (i := 1) (v := .int .i64 (i : Int)) rfl (by kernel_rfl) (fun _ _ _ h => h) (by kernel_rfl) ?_ hH0 ?_
  · intro V hS; obtain ⟨q1, q2, q3, q4⟩ := hS; go_simp; try (first | omega | exact wrapN (by omega) | go_num)
  simp only [Act.put, List.getElem_toArray, List.getElem_cons_succ, List.getElem_cons_zero, Array.toArray_toList, List.size_toArray, List.setIfInBounds_toArray, List.set_cons_zero, List.set_cons_succ]
  refine tk (i := 2) (v := .pointer (some ⟨g, i * 3, none⟩)) rfl (by kernel_rfl) (fun _ _ _ h => h) (by kernel_rfl) ?_ hH0 ?_
  · intro V hS; obtain ⟨q1, q2, q3, q4⟩ := hS; go_simp; try (first | omega | exact wrapN (by omega) | go_num)
  simp only [Act.put, List.getElem_toArray, List.getElem_cons_succ, List.getElem_cons_zero, Array.toArray_toList, List.size_toArray, List.setIfInBounds_toArray, List.set_cons_zero, List.set_cons_succ]
  refine tk (i := 3) (v := .pointer (some ⟨g, i * 3, none⟩)) rfl (by kernel_rfl) (fun _ _ _ h => h) (by kernel_rfl) ?_ hH0 ?_
  · intro V hS; obtain ⟨q1, q2, q3, q4⟩ := hS; go_simp; try (first | omega | exact wrapN (by omega) | go_num)
  simp only [Act.put, List.getElem_toArray, List.getElem_cons_succ, List.getElem_cons_zero, Array.toArray_toList, List.size_toArray, List.setIfInBounds_toArray, List.set_cons_zero, List.set_cons_succ]
  refine tk (i := 4) (v := .pointer (some ⟨g, i * 3, none⟩)) rfl (by kernel_rfl) (fun _ _ _ h => h) (by kernel_rfl) ?_ hH0 ?_
  · intro V hS; obtain ⟨q1, q2, q3, q4⟩ := hS; go_simp; try (first | omega | exact wrapN (by omega) | go_num)
  simp only [Act.put, List.getElem_toArray, List.getElem_cons_succ, List.getElem_cons_zero, Array.toArray_toList, List.size_toArray, List.setIfInBounds_toArray, List.set_cons_zero, List.set_cons_succ]
  refine tk (i := 5) (v := .int .i64 (a1 : Int)) rfl (by kernel_rfl) (fun _ _ _ h => h) (by kernel_rfl) ?_ hH0 ?_
  · intro V hS; obtain ⟨q1, q2, q3, q4⟩ := hS; go_simp; try (first | omega | exact wrapN (by omega) | go_num)
  simp only [Act.put, List.getElem_toArray, List.getElem_cons_succ, List.getElem_cons_zero, Array.toArray_toList, List.size_toArray, List.setIfInBounds_toArray, List.set_cons_zero, List.set_cons_succ]
  refine tk (i := 6) (v := .slice (some ⟨g, 0, none⟩) n cap) rfl (by kernel_rfl) (fun _ _ _ h => h) (by kernel_rfl) ?_ hH0 ?_
  · intro V hS; obtain ⟨q1, q2, q3, q4⟩ := hS; go_simp; try (first | omega | exact wrapN (by omega) | go_num)
  simp only [Act.put, List.getElem_toArray, List.getElem_cons_succ, List.getElem_cons_zero, Array.toArray_toList, List.size_toArray, List.setIfInBounds_toArray, List.set_cons_zero, List.set_cons_succ]
  refine tk (i := 7) (v := .int .i64 (i : Int)) rfl (by kernel_rfl) (fun _ _ _ h => h) (by kernel_rfl) ?_ hH0 ?_
  · intro V hS; obtain ⟨q1, q2, q3, q4⟩ := hS; go_simp; try (first | omega | exact wrapN (by omega) | go_num)
  simp only [Act.put, List.getElem_toArray, List.getElem_cons_succ, List.getElem_cons_zero, Array.toArray_toList, List.size_toArray, List.setIfInBounds_toArray, List.set_cons_zero, List.set_cons_succ]
  refine tk (i := 8) (v := .int .i64 (n1 : Int)) rfl (by kernel_rfl) (fun _ _ _ h => h) (by kernel_rfl) ?_ hH0 ?_
  · intro V hS; obtain ⟨q1, q2, q3, q4⟩ := hS; go_simp; try (first | omega | exact wrapN (by omega) | go_num)
  simp only [Act.put, List.getElem_toArray, List.getElem_cons_succ, List.getElem_cons_zero, Array.toArray_toList, List.size_toArray, List.setIfInBounds_toArray, List.set_cons_zero, List.set_cons_succ]
  refine tk (i := 9) (v := .pointer (some ⟨g, n1 * 3, none⟩)) rfl (by kernel_rfl) (fun _ _ _ h => h) (by kernel_rfl) ?_ hH0 ?_
  · intro V hS; obtain ⟨q1, q2, q3, q4⟩ := hS; go_simp; try (first | omega | exact wrapN (by omega) | go_num)
  simp only [Act.put, List.getElem_toArray, List.getElem_cons_succ, List.getElem_cons_zero, Array.toArray_toList, List.size_toArray, List.setIfInBounds_toArray, List.set_cons_zero, List.set_cons_succ]
  refine tk (i := 10) (v := .pointer (some ⟨g, n1 * 3, none⟩)) rfl (by kernel_rfl) (fun _ _ _ h => h) (by kernel_rfl) ?_ hH0 ?_
  · intro V hS; obtain ⟨q1, q2, q3, q4⟩ := hS; go_simp; try (first | omega | exact wrapN (by omega) | go_num)
  simp only [Act.put, List.getElem_toArray, List.getElem_cons_succ, List.getElem_cons_zero, Array.toArray_toList, List.size_toArray, List.setIfInBounds_toArray, List.set_cons_zero, List.set_cons_succ]
  refine tk (i := 11) (v := .pointer (some ⟨g, n1 * 3 + 1, none⟩)) rfl (by kernel_rfl) (fun _ _ _ h => h) (by kernel_rfl) ?_ hH0 ?_
  · intro V hS; obtain ⟨q1, q2, q3, q4⟩ := hS; go_simp; try (first | omega | exact wrapN (by omega) | go_num)
  simp only [Act.put, List.getElem_toArray, List.getElem_cons_succ, List.getElem_cons_zero, Array.toArray_toList, List.size_toArray, List.setIfInBounds_toArray, List.set_cons_zero, List.set_cons_succ]
  refine tk (i := 12) (v := .int .i64 (b2 : Int)) rfl (by kernel_rfl) (fun _ _ _ h => h) (by kernel_rfl) ?_ hH0 ?_
  · intro V hS; obtain ⟨q1, q2, q3, q4⟩ := hS; go_simp; try (first | omega | exact wrapN (by omega) | go_num)
  simp only [Act.put, List.getElem_toArray, List.getElem_cons_succ, List.getElem_cons_zero, Array.toArray_toList, List.size_toArray, List.setIfInBounds_toArray, List.set_cons_zero, List.set_cons_succ]
  refine tk (i := 13) (v := .agg #[.int .i64 (a1 : Int), .int .i64 (b2 : Int)]) rfl (by kernel_rfl) (fun _ _ _ h => h) (by kernel_rfl) ?_ hH0 ?_
  · intro V hS; obtain ⟨q1, q2, q3, q4⟩ := hS; go_simp; try (first | omega | exact wrapN (by omega) | go_num)
  simp only [Act.put, List.getElem_toArray, List.getElem_cons_succ, List.getElem_cons_zero, Array.toArray_toList, List.size_toArray, List.setIfInBounds_toArray, List.set_cons_zero, List.set_cons_succ]
  refine tk (i := 14) (v := .slice (some ⟨g, 0, none⟩) n cap) rfl (by kernel_rfl) (fun _ _ _ h => h) (by kernel_rfl) ?_ hH0 ?_
  · intro V hS; obtain ⟨q1, q2, q3, q4⟩ := hS; go_simp; try (first | omega | exact wrapN (by omega) | go_num)
  simp only [Act.put, List.getElem_toArray, List.getElem_cons_succ, List.getElem_cons_zero, Array.toArray_toList, List.size_toArray, List.setIfInBounds_toArray, List.set_cons_zero, List.set_cons_succ]
  refine tk (i := 15) (v := .int .i64 (i : Int)) rfl (by kernel_rfl) (fun _ _ _ h => h) (by kernel_rfl) ?_ hH0 ?_
  · intro V hS; obtain ⟨q1, q2, q3, q4⟩ := hS; go_simp; try (first | omega | exact wrapN (by omega) | go_num)
  simp only [Act.put, List.getElem_toArray, List.getElem_cons_succ, List.getElem_cons_zero, Array.toArray_toList, List.size_toArray, List.setIfInBounds_toArray, List.set_cons_zero, List.set_cons_succ]
  refine tk (i := 16) (v := .pointer (some ⟨g, i * 3, none⟩)) rfl (by kernel_rfl) (fun _ _ _ h => h) (by kernel_rfl) ?_ hH0 ?_
  · intro V hS; obtain ⟨q1, q2, q3, q4⟩ := hS; go_simp; try (first | omega | exact wrapN (by omega) | go_num)
  simp only [Act.put, List.getElem_toArray, List.getElem_cons_succ, List.getElem_cons_zero, Array.toArray_toList, List.size_toArray, List.setIfInBounds_toArray, List.set_cons_zero, List.set_cons_succ]
  refine tk (i := 17) (v := .pointer (some ⟨g, i * 3 + 2, none⟩)) rfl (by kernel_rfl) (fun _ _ _ h => h) (by kernel_rfl) ?_ hH0 ?_
  · intro V hS; obtain ⟨q1, q2, q3, q4⟩ := hS; go_simp; try (first | omega | exact wrapN (by omega) | go_num)
  simp only [Act.put, List.getElem_toArray, List.getElem_cons_succ, List.getElem_cons_zero, Array.toArray_toList, List.size_toArray, List.setIfInBounds_toArray, List.set_cons_zero, List.set_cons_succ]
  refine tk (i := 18) (v := .string f) rfl (by kernel_rfl) (fun _ _ _ h => h) (by kernel_rfl) ?_ hH0 ?_
  · intro V hS; obtain ⟨q1, q2, q3, q4⟩ := hS; go_simp; try (first | omega | exact wrapN (by omega) | go_num)
  simp only [Act.put, List.getElem_toArray, List.getElem_cons_succ, List.getElem_cons_zero, Array.toArray_toList, List.size_toArray, List.setIfInBounds_toArray, List.set_cons_zero, List.set_cons_succ]
  refine tk (i := 19) (v := .slice (some ⟨g, 0, none⟩) n cap) rfl (by kernel_rfl) (fun _ _ _ h => h) (by kernel_rfl) ?_ hH0 ?_
  · intro V hS; obtain ⟨q1, q2, q3, q4⟩ := hS; go_simp; try (first | omega | exact wrapN (by omega) | go_num)
  simp only [Act.put, List.getElem_toArray, List.getElem_cons_succ, List.getElem_cons_zero, Array.toArray_toList, List.size_toArray, List.setIfInBounds_toArray, List.set_cons_zero, List.set_cons_succ]
  refine tk (i := 20) (v := .int .i64 (i : Int)) rfl (by kernel_rfl) (fun _ _ _ h => h) (by kernel_rfl) ?_ hH0 ?_
  · intro V hS; obtain ⟨q1, q2, q3, q4⟩ := hS; go_simp; try (first | omega | exact wrapN (by omega) | go_num)
  simp only [Act.put, List.getElem_toArray, List.getElem_cons_succ, List.getElem_cons_zero, Array.toArray_toList, List.size_toArray, List.setIfInBounds_toArray, List.set_cons_zero, List.set_cons_succ]
  refine tk (i := 21) (v := .int .i64 (n1 : Int)) rfl (by kernel_rfl) (fun _ _ _ h => h) (by kernel_rfl) ?_ hH0 ?_
  · intro V hS; obtain ⟨q1, q2, q3, q4⟩ := hS; go_simp; try (first | omega | exact wrapN (by omega) | go_num)
  simp only [Act.put, List.getElem_toArray, List.getElem_cons_succ, List.getElem_cons_zero, Array.toArray_toList, List.size_toArray, List.setIfInBounds_toArray, List.set_cons_zero, List.set_cons_succ]
  refine tk (i := 22) (v := .pointer (some ⟨g, n1 * 3, none⟩)) rfl (by kernel_rfl) (fun _ _ _ h => h) (by kernel_rfl) ?_ hH0 ?_
  · intro V hS; obtain ⟨q1, q2, q3, q4⟩ := hS; go_simp; try (first | omega | exact wrapN (by omega) | go_num)
  simp only [Act.put, List.getElem_toArray, List.getElem_cons_succ, List.getElem_cons_zero, Array.toArray_toList, List.size_toArray, List.setIfInBounds_toArray, List.set_cons_zero, List.set_cons_succ]
  refine tk (i := 23) (v := .pointer (some ⟨g, n1 * 3 + 2, none⟩)) rfl (by kernel_rfl) (fun _ _ _ h => h) (by kernel_rfl) ?_ hH0 ?_
  · intro V hS; obtain ⟨q1, q2, q3, q4⟩ := hS; go_simp; try (first | omega | exact wrapN (by omega) | go_num)
  simp only [Act.put, List.getElem_toArray, List.getElem_cons_succ, List.getElem_cons_zero, Array.toArray_toList, List.size_toArray, List.setIfInBounds_toArray, List.set_cons_zero, List.set_cons_succ]
  refine tk (i := 24) (v := .string d) rfl (by kernel_rfl) (fun _ _ _ h => h) (by kernel_rfl) ?_ hH0 ?_
  · intro V hS; obtain ⟨q1, q2, q3, q4⟩ := hS; go_simp; try (first | omega | exact wrapN (by omega) | go_num)
  simp only [Act.put, List.getElem_toArray, List.getElem_cons_succ, List.getElem_cons_zero, Array.toArray_toList, List.size_toArray, List.setIfInBounds_toArray, List.set_cons_zero, List.set_cons_succ]
  refine wpAnyH_ready (rs := [25, 27]) (by kernel_rfl) (by simp) ?_
  refine AllReadyH.cons rfl (fun K hK => ?_) (AllReadyH.cons rfl (fun K hK => ?_) AllReadyH.nil)
  · clear hH0
    go_simp
    refine (HC.out _ D0.out).mono ?_
    rintro e V ⟨rfl, hV⟩
    have HV : Hid (Below W.heap.size W V) := D0.out.trans (hV.mono D0.out.size)
    refine hK.out _ _ (KQ.out _ HV.out) (fun hH0 => ?_)
    clear hK K hV
    try simp only [Act.put, List.getElem_toArray, List.getElem_cons_succ, List.getElem_cons_zero, Array.toArray_toList, List.size_toArray, List.setIfInBounds_toArray, List.set_cons_zero, List.set_cons_succ]
    refine tk (i := 26) (v := .agg #[.int .i64 (a1 : Int), .int .i64 (b2 : Int), .string D]) rfl (by kernel_rfl) (fun _ _ _ h => h) (by kernel_rfl) ?_ hH0 ?_
    · intro V hS; obtain ⟨q1, q2, q3, q4⟩ := hS; go_simp; try (first | omega | exact wrapN (by omega) | go_num)
    simp only [Act.put, List.getElem_toArray, List.getElem_cons_succ, List.getElem_cons_zero, Array.toArray_toList, List.size_toArray, List.setIfInBounds_toArray, List.set_cons_zero, List.set_cons_succ]
    refine wpAnyH_ready (rs := [27]) (by kernel_rfl) (by simp) ?_
    refine AllReadyH.cons rfl (fun K hK => ?_) AllReadyH.nil
    clear hH0
    go_simp
    have IB : Hid (IHolds (V.alloc (.cells #[.int .i64 0, .int .i64 0, .string ⟨#[]⟩] 67)) V.heap.size 67 [.int .i64 0, .int .i64 0, .string ⟨#[]⟩]) := IHolds.new V 67 [.int .i64 0, .int .i64 0, .string ⟨#[]⟩]
    have BX : Hid (Below W.heap.size W (V.alloc (.cells #[.int .i64 0, .int .i64 0, .string ⟨#[]⟩] 67))) := HV.out.trans ((nB V _).mono HV.out.size)
    have hBW : W.heap.size ≤ V.heap.size := HV.out.size
    generalize V.alloc (.cells #[.int .i64 0, .int .i64 0, .string ⟨#[]⟩] 67) = X at *
    generalize V.heap.size = B at *
    refine hK.out _ _ (KQ.out _ BX.out) (fun hH0 => ?_)
    clear hK K
    try simp only [Act.put, List.getElem_toArray, List.getElem_cons_succ, List.getElem_cons_zero, Array.toArray_toList, List.size_toArray, List.setIfInBounds_toArray, List.set_cons_zero, List.set_cons_succ]
    refine wpAnyH_ready (rs := [28]) (by kernel_rfl) (by simp) ?_
    refine AllReadyH.cons rfl (fun K hK => ?_) AllReadyH.nil
    clear hH0

    have g1 : X.cell? ⟨B, 0, none⟩ = some (.int .i64 0) := IB.out.cell 0 (by simp)
    have g2 : X.cell? ⟨B, 1, none⟩ = some (.int .i64 0) := IB.out.cell 1 (by simp)
    have g3 : X.cell? ⟨B, 2, none⟩ = some (.string ⟨#[]⟩) := IB.out.cell 2 (by simp)
    have f1 := IB.out.frozen 0
    have f2 := IB.out.frozen 1
    have f3 := IB.out.frozen 2
    go_simp
    clear g1 g2 g3 f1 f2 f3
    have I9 : Hid (IHolds (((X.setCell ⟨B, 0, none⟩ (.int .i64 (a1 : Int))).setCell ⟨B, 1, none⟩ (.int .i64 (b2 : Int))).setCell ⟨B, 2, none⟩ (.string D)) B 67 [.int .i64 (a1 : Int), .int .i64 (b2 : Int), .string D]) := ((IB.out.set 0 _).set 1 _).set 2 _
    have B9 : Hid (Below W.heap.size W (((X.setCell ⟨B, 0, none⟩ (.int .i64 (a1 : Int))).setCell ⟨B, 1, none⟩ (.int .i64 (b2 : Int))).setCell ⟨B, 2, none⟩ (.string D))) := ((BX.out.setCell (p := ⟨B, 0, none⟩) hBW _).setCell (p := ⟨B, 1, none⟩) hBW _).setCell (p := ⟨B, 2, none⟩) hBW _
    refine hK.out _ _ (KQ.out _ B9.out) (fun hH0 => ?_)
    clear hK K
    try simp only [Act.put, List.getElem_toArray, List.getElem_cons_succ, List.getElem_cons_zero, Array.toArray_toList, List.size_toArray, List.setIfInBounds_toArray, List.set_cons_zero, List.set_cons_succ]
    refine wpAnyH_done (by kernel_rfl) ?_ _
    exact HQ.out _ _ _ _ _ _ _ _ _ _ _ _ _ _ _ _ _ _ _ _ _ _ _ _ _ _ _ _ _ B9.out hBW I9.out
  · clear hH0
    go_simp
    have IB0 : Hid (IHolds (v0.alloc (.cells #[.int .i64 0, .int .i64 0, .string ⟨#[]⟩] 67)) v0.heap.size 67 [.int .i64 0, .int .i64 0, .string ⟨#[]⟩]) := IHolds.new v0 67 [.int .i64 0, .int .i64 0, .string ⟨#[]⟩]
    have BX0 : Hid (Below W.heap.size W (v0.alloc (.cells #[.int .i64 0, .int .i64 0, .string ⟨#[]⟩] 67))) := D0.out.trans ((nB v0 _).mono D0.out.size)
    have hBW : W.heap.size ≤ v0.heap.size := D0.out.size
    generalize v0.alloc (.cells #[.int .i64 0, .int .i64 0, .string ⟨#[]⟩] 67) = X0 at *
    generalize v0.heap.size = B at *
    refine hK.out _ _ (KQ.out _ BX0.out) (fun hH0 => ?_)
    clear hK K
    try simp only [Act.put, List.getElem_toArray, List.getElem_cons_succ, List.getElem_cons_zero, Array.toArray_toList, List.size_toArray, List.setIfInBounds_toArray, List.set_cons_zero, List.set_cons_succ]
    refine wpAnyH_ready (rs := [25]) (by kernel_rfl) (by simp) ?_
    refine AllReadyH.cons rfl (fun K hK => ?_) AllReadyH.nil
    clear hH0
    go_simp
    refine (HC.out _ BX0.out).mono ?_
    rintro e X ⟨rfl, hV⟩
    have BX : Hid (Below W.heap.size W X) := BX0.out.trans (hV.mono BX0.out.size)
    have IB : Hid (IHolds X B 67 [.int .i64 0, .int .i64 0, .string ⟨#[]⟩]) := IB0.out.of_below hV
    refine hK.out _ _ (KQ.out _ BX.out) (fun hH0 => ?_)
    clear hK K hV
    try simp only [Act.put, List.getElem_toArray, List.getElem_cons_succ, List.getElem_cons_zero, Array.toArray_toList, List.size_toArray, List.setIfInBounds_toArray, List.set_cons_zero, List.set_cons_succ]
    refine tk (i := 26) (v := .agg #[.int .i64 (a1 : Int), .int .i64 (b2 : Int), .string D]) rfl (by kernel_rfl) (fun _ _ _ h => h) (by kernel_rfl) ?_ hH0 ?_
    · intro V hS; obtain ⟨q1, q2, q3, q4⟩ := hS; go_simp; try (first | omega | exact wrapN (by omega) | go_num)
    simp only [Act.put, List.getElem_toArray, List.getElem_cons_succ, List.getElem_cons_zero, Array.toArray_toList, List.size_toArray, List.setIfInBounds_toArray, List.set_cons_zero, List.set_cons_succ]
    refine wpAnyH_ready (rs := [28]) (by kernel_rfl) (by simp) ?_
    refine AllReadyH.cons rfl (fun K hK => ?_) AllReadyH.nil
    clear hH0

    have g1 : X.cell? ⟨B, 0, none⟩ = some (.int .i64 0) := IB.out.cell 0 (by simp)
    have g2 : X.cell? ⟨B, 1, none⟩ = some (.int .i64 0) := IB.out.cell 1 (by simp)
    have g3 : X.cell? ⟨B, 2, none⟩ = some (.string ⟨#[]⟩) := IB.out.cell 2 (by simp)
    have f1 := IB.out.frozen 0
    have f2 := IB.out.frozen 1
    have f3 := IB.out.frozen 2
    go_simp
    clear g1 g2 g3 f1 f2 f3
    have I9 : Hid (IHolds (((X.setCell ⟨B, 0, none⟩ (.int .i64 (a1 : Int))).setCell ⟨B, 1, none⟩ (.int .i64 (b2 : Int))).setCell ⟨B, 2, none⟩ (.string D)) B 67 [.int .i64 (a1 : Int), .int .i64 (b2 : Int), .string D]) := ((IB.out.set 0 _).set 1 _).set 2 _
    have B9 : Hid (Below W.heap.size W (((X.setCell ⟨B, 0, none⟩ (.int .i64 (a1 : Int))).setCell ⟨B, 1, none⟩ (.int .i64 (b2 : Int))).setCell ⟨B, 2, none⟩ (.string D))) := ((BX.out.setCell (p := ⟨B, 0, none⟩) hBW _).setCell (p := ⟨B, 1, none⟩) hBW _).setCell (p := ⟨B, 2, none⟩) hBW _
    refine hK.out _ _ (KQ.out _ B9.out) (fun hH0 => ?_)
    clear hK K
    try simp only [Act.put, List.getElem_toArray, List.getElem_cons_succ, List.getElem_cons_zero, Array.toArray_toList, List.size_toArray, List.setIfInBounds_toArray, List.set_cons_zero, List.set_cons_succ]
    refine wpAnyH_done (by kernel_rfl) ?_ _
    exact HQ.out _ _ _ _ _ _ _ _ _ _ _ _ _ _ _ _ _ _ _ _ _ _ _ _ _ _ _ _ _ B9.out hBW I9.out
end Go.Proofs.YtckgihloiecdmaaDoor

/- Left, on the document's side: the region that lays a list anew. -/
set_option linter.unusedSimpArgs false
set_option linter.unusedVariables false
set_option maxRecDepth 100000
namespace Go.Proofs.YtckgihloiecdmaaDoor
open Go.RowKit Go.Deep Go.PlainAid

theorem IHolds.newsA {w : World} {b : Nat} {t : TypeId} {l : List Value} (h : IHolds w b t l) : ∀ j u, l[j]? = some u → w.cell? ((⟨b, 0, none⟩ : Addr).add j) = some u := fun j u hj => by
  have hlt := (List.getElem?_eq_some_iff.1 hj).1
  have q := h.cell j hlt
  rw [(List.getElem?_eq_some_iff.1 hj).2] at q
  unfold Addr.add
  by_cases h0 : j = 0
  · subst h0; simpa using q
  · simpa [h0] using q
theorem none_own {w : World} {base : Nat} (hb : base ≤ w.heap.size) : (w.alloc (.cells #[] 67)).ownsRow base 67 3 (.slice (some ⟨w.heap.size, 0, none⟩) 0 0) 0 [] :=
  ⟨rfl, Or.inr ⟨w.heap.size, 0, #[], rfl, hb, IHolds.new w 67 [], Nat.le_refl _, by unfold maxLen; omega, rfl, rfl⟩⟩
set_option maxHeartbeats 4000000 in
theorem r19_top {W : World} {g n cap i n2 r B a1 b2 : Nat} {D : ByteArray} {xs ys : List Value} {R : Act → World → Prop} {t0 t1 t2 t3 t4 t5 t6 t7 t8 t9 t10 t11 t12 t13 t14 t15 t17 t18 t21 t22 t23 t24 t25 t26 t27 t28 t29 t30 t31 t32 t33 t34 t35 t36 t37 t38 t39 t40 t41 t42 t43 t44 t45 t46 t47 t48 t49 t50 t51 t52 t53 t54 t55 t56 t57 t58 t59 t60 t61 t62 t63 t64 t65 t66 t67 t68 t69 t70 t71 t72 t73 t74 t75 t76 t77 t78 t79 t80 t81 t82 t83 t84 t85 t86 t87 t88 t89 t90 t91 t92 t93 t94 t95 t96 t97 t98 t99 t100 t101 t102 t103 t104 t105 t106 t107 t108 t109 t110 t111 t112 t113 t114 t115 t116 t117 t118 t119 t120 t121 t122 t123 t124 t125 t126 t127 t128 t129 t130 t131 t132 t133 t134 t135 t136 t137 t138 t139 t140 t141 t142 t143 t144 t145 t146 t147 t148 t149 t150 t151 t152 : Value}
    (k0 : (i : Int) ≤ (cap : Int)) (k1 : (n2 : Int) ≤ (n : Int)) (k2 : (i : Int) + 2 = (n2 : Int)) (k3 : IntKind.i64.wrap (n2 : Int) = (n2 : Int)) (k4 : (n : Int) ≤ (cap : Int)) (hr : n = n2 + r) (hn : n ≤ 1048576) (hin : i < n) (hgW : g < W.heap.size) (hx : xs.length = i * 3) (hy : ys.length = r * 3)
    (hx1 : ∀ u ∈ xs, u.oneCell' = true) (hy1 : ∀ u ∈ ys, u.oneCell' = true)
    (hxc : ∀ j u, xs[j]? = some u → W.cell? ⟨g, j, none⟩ = some u) (hyc : ∀ j u, ys[j]? = some u → W.cell? ⟨g, n2 * 3 + j, none⟩ = some u) (IB : IHolds W B 67 [.int .i64 (a1 : Int), .int .i64 (b2 : Int), .string D])
    (hQ : ∀ V v' u127 u128 u129 u130 u131 u132 u133 u134 u135 u136 u137 u138 u139, Below W.heap.size W V → V.ownsRow W.heap.size 67 3 v' (i + 1 + r) (xs ++ [.int .i64 (a1 : Int), .int .i64 (b2 : Int), .string D] ++ ys) → R ⟨#[t0, t1, t2, t3, t4, t5, t6, t7, t8, t9, t10, t11, t12, t13, t14, t15, v', t17, t18, .int .i64 (i : Int), .pointer (some ⟨B, 0, none⟩), t21, t22, t23, t24, t25, t26, t27, t28, t29, t30, t31, t32, t33, t34, t35, t36, t37, t38, t39, t40, t41, t42, t43, t44, t45, t46, t47, t48, t49, t50, t51, t52, t53, t54, t55, t56, t57, t58, t59, t60, t61, t62, t63, t64, t65, t66, t67, t68, t69, t70, t71, t72, t73, t74, t75, t76, t77, t78, t79, t80, t81, t82, t83, t84, t85, t86, t87, t88, t89, t90, t91, t92, t93, t94, t95, t96, t97, t98, t99, t100, t101, t102, t103, t104, t105, t106, t107, t108, t109, t110, t111, t112, t113, t114, t115, t116, t117, t118, t119, t120, t121, t122, t123, t124, t125, t126, u127, u128, u129, u130, u131, u132, u133, u134, u135, u136, u137, u138, u139, t140, t141, t142, t143, t144, t145, t146, t147, t148, t149, t150, t151, t152], []⟩ V) :
    r19.wp Tryd.prog (fun e aa ww => match e with | .normal => R aa ww | _ => False) ⟨#[t0, t1, t2, t3, t4, t5, t6, t7, t8, t9, t10, t11, t12, t13, t14, t15, .slice (some ⟨g, 0, none⟩) n cap, t17, t18, .int .i64 (i : Int), .pointer (some ⟨B, 0, none⟩), t21, t22, t23, t24, t25, t26, t27, t28, t29, t30, t31, t32, t33, t34, t35, t36, t37, t38, t39, t40, t41, t42, t43, t44, t45, t46, t47, t48, t49, t50, t51, t52, t53, t54, t55, t56, t57, t58, t59, t60, t61, t62, t63, t64, t65, t66, t67, t68, t69, t70, t71, t72, t73, t74, t75, t76, t77, t78, t79, t80, t81, t82, t83, t84, t85, t86, t87, t88, t89, t90, t91, t92, t93, t94, t95, t96, t97, t98, t99, t100, t101, t102, t103, t104, t105, t106, t107, t108, t109, t110, t111, t112, t113, t114, t115, t116, t117, t118, t119, t120, t121, t122, t123, t124, t125, t126, t127, t128, t129, t130, t131, t132, t133, t134, t135, t136, t137, t138, t139, t140, t141, t142, t143, t144, t145, t146, t147, t148, t149, t150, t151, t152], []⟩ W := by
  have HQ : Hid (∀ V v' u127 u128 u129 u130 u131 u132 u133 u134 u135 u136 u137 u138 u139, Below W.heap.size W V → V.ownsRow W.heap.size 67 3 v' (i + 1 + r) (xs ++ [.int .i64 (a1 : Int), .int .i64 (b2 : Int), .string D] ++ ys) → R ⟨#[t0, t1, t2, t3, t4, t5, t6, t7, t8, t9, t10, t11, t12, t13, t14, t15, v', t17, t18, .int .i64 (i : Int), .pointer (some ⟨B, 0, none⟩), t21, t22, t23, t24, t25, t26, t27, t28, t29, t30, t31, t32, t33, t34, t35, t36, t37, t38, t39, t40, t41, t42, t43, t44, t45, t46, t47, t48, t49, t50, t51, t52, t53, t54, t55, t56, t57, t58, t59, t60, t61, t62, t63, t64, t65, t66, t67, t68, t69, t70, t71, t72, t73, t74, t75, t76, t77, t78, t79, t80, t81, t82, t83, t84, t85, t86, t87, t88, t89, t90, t91, t92, t93, t94, t95, t96, t97, t98, t99, t100, t101, t102, t103, t104, t105, t106, t107, t108, t109, t110, t111, t112, t113, t114, t115, t116, t117, t118, t119, t120, t121, t122, t123, t124, t125, t126, u127, u128, u129, u130, u131, u132, u133, u134, u135, u136, u137, u138, u139, t140, t141, t142, t143, t144, t145, t146, t147, t148, t149, t150, t151, t152], []⟩ V) := hQ
  have KQ : Hid (∀ V, Below W.heap.size W V → (V.cell? ⟨B, 0, none⟩ = some (.int .i64 (a1 : Int)) ∧ V.cell? ⟨B, 1, none⟩ = some (.int .i64 (b2 : Int)) ∧ V.cell? ⟨B, 2, none⟩ = some (.string D))) := fun V hV => ⟨(IB.of_below hV).cell 0 (by simp), (IB.of_below hV).cell 1 (by simp), (IB.of_below hV).cell 2 (by simp)⟩
  have HX : Hid (∀ V, Below W.heap.size W V → ∀ j u, xs[j]? = some u → V.cell? ((⟨g, 0, none⟩ : Addr).add j) = some u) := fun V hV j u hj => by
    have q := cell_keep (hxc j u hj) hV
    unfold Addr.add
    by_cases h0 : j = 0
    · subst h0; simpa using q
    · simpa [h0] using q
  obtain ⟨oy, hoy, hoy2⟩ : ∃ oy, (if cap = n2 then some (⟨g, 0, none⟩ : Addr) else some ⟨g, n2 * 3, none⟩) = some ⟨g, oy, none⟩ ∧ (0 < r → oy = n2 * 3) := by
    by_cases hq : cap = n2
    · exact ⟨0, by rw [if_pos hq], fun q => by omega⟩
    · exact ⟨n2 * 3, by rw [if_neg hq], fun _ => rfl⟩
  have HY : Hid (∀ V, Below W.heap.size W V → ∀ j u, ys[j]? = some u → V.cell? ((⟨g, oy, none⟩ : Addr).add j) = some u) := fun V hV j u hj => by
    have hlt := (List.getElem?_eq_some_iff.1 hj).1
    have q := cell_keep (hyc j u hj) hV
    rw [← hoy2 (by omega)] at q
    unfold Addr.add
    by_cases h0 : j = 0
    · subst h0; simpa using q
    · simpa [h0] using q
  obtain ⟨i0, hi0, hz0, hz1, hz2⟩ := info_parts info66
  have e1 : n - n2 = r := by omega
  obtain ⟨cr, hcr⟩ : ∃ cr, cr = cap - n2 := ⟨_, rfl⟩
  have e2 : cap - n2 = cr := hcr.symm
  have kk1 : (n : Int) - (n2 : Int) = (r : Int) := by omega
  have kk2 : (cap : Int) - (n2 : Int) = (cr : Int) := by omega
  have HRR : Hid (n = n2 + r) := hr
  have hnr : i + 1 + r ≤ 1048576 := by omega
  clear hQ IB hxc hyc hcr hr hoy2
  unfold r19
  refine wp_region_held_drew (S := fun V => V.cell? ⟨B, 0, none⟩ = some (.int .i64 (a1 : Int)) ∧ V.cell? ⟨B, 1, none⟩ = some (.int .i64 (b2 : Int)) ∧ V.cell? ⟨B, 2, none⟩ = some (.string D)) (by kernel_rfl) (KQ.out _ (Below.refl _ _).drew) (fun hH0 => ?_)
  have D0 : Hid (Below W.heap.size W W.drew) := (Below.refl _ W).drew
  generalize W.drew = v0 at *
  refine tk (i := 1) (v := .slice (some ⟨g, 0, none⟩) n cap) rfl (by kernel_rfl) (fun _ _ _ h => h) (by kernel_rfl) ?_ hH0 ?_
  · intro V hS; obtain ⟨q1, q2, q3⟩ := hS; go_simp; try (first | omega | exact wrapN (by omega) | go_num)
  simp only [Act.put, List.getElem_toArray, List.getElem_cons_succ, List.getElem_cons_zero, Array.toArray_toList, List.size_toArray, List.setIfInBounds_toArray, List.set_cons_zero, List.set_cons_succ]
  refine tk (i := 2) (v := .int .i64 (i : Int)) rfl (by kernel_rfl) (fun _ _ _ h => h) (by kernel_rfl) ?_ hH0 ?_
  · intro V hS; obtain ⟨q1, q2, q3⟩ := hS; go_simp; try (first | omega | exact wrapN (by omega) | go_num)
  simp only [Act.put, List.getElem_toArray, List.getElem_cons_succ, List.getElem_cons_zero, Array.toArray_toList, List.size_toArray, List.setIfInBounds_toArray, List.set_cons_zero, List.set_cons_succ]
  refine tk (i := 3) (v := .slice (some ⟨g, 0, none⟩) i cap) rfl (by kernel_rfl) (fun _ _ _ h => h) (by kernel_rfl) ?_ hH0 ?_
  · intro V hS; obtain ⟨q1, q2, q3⟩ := hS; go_simp; try (first | omega | exact wrapN (by omega) | go_num)
  simp only [Act.put, List.getElem_toArray, List.getElem_cons_succ, List.getElem_cons_zero, Array.toArray_toList, List.size_toArray, List.setIfInBounds_toArray, List.set_cons_zero, List.set_cons_succ]
  refine tk (i := 5) (v := .agg #[.int .i64 (a1 : Int), .int .i64 (b2 : Int), .string D]) rfl (by kernel_rfl) (fun _ _ _ h => h) (by kernel_rfl) ?_ hH0 ?_
  · intro V hS; obtain ⟨q1, q2, q3⟩ := hS; go_simp; try (first | omega | exact wrapN (by omega) | go_num)
  simp only [Act.put, List.getElem_toArray, List.getElem_cons_succ, List.getElem_cons_zero, Array.toArray_toList, List.size_toArray, List.setIfInBounds_toArray, List.set_cons_zero, List.set_cons_succ]
  refine tk (i := 8) (v := .slice (some ⟨g, 0, none⟩) n cap) rfl (by kernel_rfl) (fun _ _ _ h => h) (by kernel_rfl) ?_ hH0 ?_
  · intro V hS; obtain ⟨q1, q2, q3⟩ := hS; go_simp; try (first | omega | exact wrapN (by omega) | go_num)
  simp only [Act.put, List.getElem_toArray, List.getElem_cons_succ, List.getElem_cons_zero, Array.toArray_toList, List.size_toArray, List.setIfInBounds_toArray, List.set_cons_zero, List.set_cons_succ]
  refine tk (i := 9) (v := .int .i64 (i : Int)) rfl (by kernel_rfl) (fun _ _ _ h => h) (by kernel_rfl) ?_ hH0 ?_
  · intro V hS; obtain ⟨q1, q2, q3⟩ := hS; go_simp; try (first | omega | exact wrapN (by omega) | go_num)
  simp only [Act.put, List.getElem_toArray, List.getElem_cons_succ, List.getElem_cons_zero, Array.toArray_toList, List.size_toArray, List.setIfInBounds_toArray, List.set_cons_zero, List.set_cons_succ]
  refine tk (i := 10) (v := .int .i64 (n2 : Int)) rfl (by kernel_rfl) (fun _ _ _ h => h) (by kernel_rfl) ?_ hH0 ?_
  · intro V hS; obtain ⟨q1, q2, q3⟩ := hS; go_simp; try (first | omega | exact wrapN (by omega) | go_num)
  simp only [Act.put, List.getElem_toArray, List.getElem_cons_succ, List.getElem_cons_zero, Array.toArray_toList, List.size_toArray, List.setIfInBounds_toArray, List.set_cons_zero, List.set_cons_succ]
  refine tk (i := 11) (v := .slice (some ⟨g, oy, none⟩) r cr) rfl (by kernel_rfl) (fun _ _ _ h => h) (by kernel_rfl) ?_ hH0 ?_
  · intro V hS; obtain ⟨q1, q2, q3⟩ := hS; go_simp; (try rw [hoy]); try (first | omega | exact wrapN (by omega) | go_num)
  simp only [Act.put, List.getElem_toArray, List.getElem_cons_succ, List.getElem_cons_zero, Array.toArray_toList, List.size_toArray, List.setIfInBounds_toArray, List.set_cons_zero, List.set_cons_succ]
  refine wpAnyH_ready (rs := [0, 6]) (by kernel_rfl) (by simp) ?_
  refine AllReadyH.cons rfl (fun K hK => ?_) (AllReadyH.cons rfl (fun K hK => ?_) AllReadyH.nil)
  · clear hH0
    go_simp
    have O0 : Hid ((v0.alloc (.cells #[] 67)).ownsRow W.heap.size 67 3 (.slice (some ⟨v0.heap.size, 0, none⟩) 0 0) 0 []) := none_own D0.out.size
    have E0 : Hid (Below W.heap.size W (v0.alloc (.cells #[] 67))) := D0.out.trans ((nB v0 _).mono D0.out.size)
    generalize hg0 : v0.heap.size = g0 at *
    have G0 : Hid (g0 < (v0.alloc (.cells #[] 67)).heap.size) := by show _ < _; rw [← hg0]; simp
    generalize v0.alloc (.cells #[] 67) = X0 at *
    clear hg0
    refine hK.out _ _ (KQ.out _ E0.out) (fun hH0 => ?_)
    clear hK K
    try simp only [Act.put, List.getElem_toArray, List.getElem_cons_succ, List.getElem_cons_zero, Array.toArray_toList, List.size_toArray, List.setIfInBounds_toArray, List.set_cons_zero, List.set_cons_succ]
    refine wpAnyH_ready (rs := [4, 6]) (by kernel_rfl) (by simp) ?_
    refine AllReadyH.cons rfl (fun K hK => ?_) (AllReadyH.cons rfl (fun K hK => ?_) AllReadyH.nil)
    · clear hH0
      refine wp_append_own _ (.tmp 127) (.tmp 130) 65 rfl W.heap.size 67 i0 (.agg #[.int .i64 0, .int .i64 0, .string ⟨#[]⟩]) 3 32 Tryd.underlying65 hi0 hz0 hz1 hz2 rfl (by decide) (.slice (some ⟨g0, 0, none⟩) 0 0) 0 [] rfl O0.out ⟨g, 0, none⟩ i cap xs rfl hx (HX.out _ E0.out) hx1 (by unfold maxLen; omega) (by omega) E0.out.size ?_
      intro v4 X4 hown hgrow hnn
      have E4 : Hid (Below W.heap.size W X4) := E0.out.grown hgrow E0.out.size (fun k hk => (O0.out.lt k hk).1)
      have O4 : Hid (X4.ownsRow W.heap.size 67 3 v4 (0 + i) ([] ++ xs)) := hown
      clear hown hgrow hnn O0
      refine hK.out _ _ (KQ.out _ E4.out) (fun hH0 => ?_)
      clear hK K
      try simp only [Act.put, List.getElem_toArray, List.getElem_cons_succ, List.getElem_cons_zero, Array.toArray_toList, List.size_toArray, List.setIfInBounds_toArray, List.set_cons_zero, List.set_cons_succ]
      refine wpAnyH_ready (rs := [6]) (by kernel_rfl) (by simp) ?_
      refine AllReadyH.cons rfl (fun K hK => ?_) AllReadyH.nil
      clear hH0
      go_simp
      have I6 : Hid (IHolds (X4.alloc (.cells #[.int .i64 (a1 : Int), .int .i64 (b2 : Int), .string D] 67)) X4.heap.size 67 [.int .i64 (a1 : Int), .int .i64 (b2 : Int), .string D]) := IHolds.new X4 67 [.int .i64 (a1 : Int), .int .i64 (b2 : Int), .string D]
      have E6 : Hid (Below W.heap.size W (X4.alloc (.cells #[.int .i64 (a1 : Int), .int .i64 (b2 : Int), .string D] 67))) := E4.out.trans ((nB X4 _).mono E4.out.size)
      have P4 : Hid ((X4.alloc (.cells #[.int .i64 (a1 : Int), .int .i64 (b2 : Int), .string D] 67)).ownsRow W.heap.size 67 3 v4 (0 + i) ([] ++ xs)) := row_keep O4.out (nB X4 _)
      clear O4
      have L6 : Hid (X4.heap.size < (X4.alloc (.cells #[.int .i64 (a1 : Int), .int .i64 (b2 : Int), .string D] 67)).heap.size) := by show _ < _; simp
      generalize X4.alloc (.cells #[.int .i64 (a1 : Int), .int .i64 (b2 : Int), .string D] 67) = X6 at *
      generalize X4.heap.size = b6 at *
      refine hK.out _ _ (KQ.out _ E6.out) (fun hH0 => ?_)
      clear hK K
      try simp only [Act.put, List.getElem_toArray, List.getElem_cons_succ, List.getElem_cons_zero, Array.toArray_toList, List.size_toArray, List.setIfInBounds_toArray, List.set_cons_zero, List.set_cons_succ]
      have O4 : Hid _ := P4
      clear P4
      refine wpAnyH_ready (rs := [7]) (by kernel_rfl) (by simp) ?_
      refine AllReadyH.cons rfl (fun K hK => ?_) AllReadyH.nil
      clear hH0
      refine wp_append_own _ (.tmp 131) (.tmp 133) 65 rfl W.heap.size 67 i0 (.agg #[.int .i64 0, .int .i64 0, .string ⟨#[]⟩]) 3 32 Tryd.underlying65 hi0 hz0 hz1 hz2 rfl (by decide) v4 (0 + i) ([] ++ xs) rfl O4.out ⟨b6, 0, none⟩ 1 1 [.int .i64 (a1 : Int), .int .i64 (b2 : Int), .string D] rfl rfl (I6.out.newsA) (fun u hu => by simp at hu; rcases hu with rfl | rfl | rfl <;> rfl) (by unfold maxLen; omega) (by omega) E6.out.size ?_
      intro v7 X7 hown hgrow hnn
      have D7 : Hid (Below W.heap.size W X7) := E6.out.grown hgrow E6.out.size (fun k hk => (O4.out.lt k hk).1)
      have O7 : Hid (X7.ownsRow W.heap.size 67 3 v7 (0 + i + 1) ([] ++ xs ++ [.int .i64 (a1 : Int), .int .i64 (b2 : Int), .string D])) := hown
      clear hown hgrow hnn O4 I6
      refine hK.out _ _ (KQ.out _ D7.out) (fun hH0 => ?_)
      clear hK K
      try simp only [Act.put, List.getElem_toArray, List.getElem_cons_succ, List.getElem_cons_zero, Array.toArray_toList, List.size_toArray, List.setIfInBounds_toArray, List.set_cons_zero, List.set_cons_succ]
      refine wpAnyH_ready (rs := [12]) (by kernel_rfl) (by simp) ?_
      refine AllReadyH.cons rfl (fun K hK => ?_) AllReadyH.nil
      clear hH0
      refine wp_append_own _ (.tmp 134) (.tmp 138) 65 rfl W.heap.size 67 i0 (.agg #[.int .i64 0, .int .i64 0, .string ⟨#[]⟩]) 3 32 Tryd.underlying65 hi0 hz0 hz1 hz2 rfl (by decide) v7 (0 + i + 1) ([] ++ xs ++ [.int .i64 (a1 : Int), .int .i64 (b2 : Int), .string D]) rfl O7.out ⟨g, oy, none⟩ r cr ys rfl hy (HY.out _ D7.out) hy1 (by unfold maxLen; omega) (by omega) D7.out.size ?_
      intro v8 X8 hown hgrow hnn
      have D8 : Hid (Below W.heap.size W X8) := D7.out.grown hgrow D7.out.size (fun k hk => (O7.out.lt k hk).1)
      have O8 : Hid (X8.ownsRow W.heap.size 67 3 v8 (i + 1 + r) (xs ++ [.int .i64 (a1 : Int), .int .i64 (b2 : Int), .string D] ++ ys)) := by
        have q := hown
        rw [Nat.zero_add, List.nil_append] at q
        exact q
      clear hown hgrow hnn O7
      refine hK.out _ _ (KQ.out _ D8.out) (fun hH0 => ?_)
      clear hK K
      try simp only [Act.put, List.getElem_toArray, List.getElem_cons_succ, List.getElem_cons_zero, Array.toArray_toList, List.size_toArray, List.setIfInBounds_toArray, List.set_cons_zero, List.set_cons_succ]
      refine tk (i := 13) (v := v8) rfl (by kernel_rfl) (fun _ _ _ h => h) (by kernel_rfl) ?_ hH0 ?_
      · intro V hS; obtain ⟨q1, q2, q3⟩ := hS; go_simp; try (first | omega | exact wrapN (by omega) | go_num)
      simp only [Act.put, List.getElem_toArray, List.getElem_cons_succ, List.getElem_cons_zero, Array.toArray_toList, List.size_toArray, List.setIfInBounds_toArray, List.set_cons_zero, List.set_cons_succ]
      refine wpAnyH_done (by kernel_rfl) ?_ _
      exact HQ.out _ _ _ _ _ _ _ _ _ _ _ _ _ _ _ D8.out O8.out
    · clear hH0
      go_simp
      have I6 : Hid (IHolds (X0.alloc (.cells #[.int .i64 (a1 : Int), .int .i64 (b2 : Int), .string D] 67)) X0.heap.size 67 [.int .i64 (a1 : Int), .int .i64 (b2 : Int), .string D]) := IHolds.new X0 67 [.int .i64 (a1 : Int), .int .i64 (b2 : Int), .string D]
      have E6 : Hid (Below W.heap.size W (X0.alloc (.cells #[.int .i64 (a1 : Int), .int .i64 (b2 : Int), .string D] 67))) := E0.out.trans ((nB X0 _).mono E0.out.size)
      have P0 : Hid ((X0.alloc (.cells #[.int .i64 (a1 : Int), .int .i64 (b2 : Int), .string D] 67)).ownsRow W.heap.size 67 3 (.slice (some ⟨g0, 0, none⟩) 0 0) 0 []) := row_keep O0.out (nB X0 _)
      have N6 : Hid (X0.heap.size ≠ g0) := fun q => by have := G0.out; omega
      clear O0 G0
      have L6 : Hid (X0.heap.size < (X0.alloc (.cells #[.int .i64 (a1 : Int), .int .i64 (b2 : Int), .string D] 67)).heap.size) := by show _ < _; simp
      generalize X0.alloc (.cells #[.int .i64 (a1 : Int), .int .i64 (b2 : Int), .string D] 67) = X6 at *
      generalize X0.heap.size = b6 at *
      refine hK.out _ _ (KQ.out _ E6.out) (fun hH0 => ?_)
      clear hK K
      try simp only [Act.put, List.getElem_toArray, List.getElem_cons_succ, List.getElem_cons_zero, Array.toArray_toList, List.size_toArray, List.setIfInBounds_toArray, List.set_cons_zero, List.set_cons_succ]
      have O0 : Hid _ := P0
      clear P0
      refine wpAnyH_ready (rs := [4]) (by kernel_rfl) (by simp) ?_
      refine AllReadyH.cons rfl (fun K hK => ?_) AllReadyH.nil
      clear hH0
      refine wp_append_own _ (.tmp 127) (.tmp 130) 65 rfl W.heap.size 67 i0 (.agg #[.int .i64 0, .int .i64 0, .string ⟨#[]⟩]) 3 32 Tryd.underlying65 hi0 hz0 hz1 hz2 rfl (by decide) (.slice (some ⟨g0, 0, none⟩) 0 0) 0 [] rfl O0.out ⟨g, 0, none⟩ i cap xs rfl hx (HX.out _ E6.out) hx1 (by unfold maxLen; omega) (by omega) E6.out.size ?_
      intro v4 X4 hown hgrow hnn
      have E4 : Hid (Below W.heap.size W X4) := E6.out.grown hgrow E6.out.size (fun k hk => (O0.out.lt k hk).1)
      have O4 : Hid (X4.ownsRow W.heap.size 67 3 v4 (0 + i) ([] ++ xs)) := hown
      have J6 : Hid (IHolds X4 b6 67 [.int .i64 (a1 : Int), .int .i64 (b2 : Int), .string D]) := (hgrow.block b6 I6.out.lt (fun q => by simp [Value.ownBlock] at q; exact N6.out q)).trans I6.out
      clear I6 N6
      clear hown hgrow hnn O0
      refine hK.out _ _ (KQ.out _ E4.out) (fun hH0 => ?_)
      clear hK K
      try simp only [Act.put, List.getElem_toArray, List.getElem_cons_succ, List.getElem_cons_zero, Array.toArray_toList, List.size_toArray, List.setIfInBounds_toArray, List.set_cons_zero, List.set_cons_succ]
      have I6 : Hid _ := J6
      clear J6
      refine wpAnyH_ready (rs := [7]) (by kernel_rfl) (by simp) ?_
      refine AllReadyH.cons rfl (fun K hK => ?_) AllReadyH.nil
      clear hH0
      refine wp_append_own _ (.tmp 131) (.tmp 133) 65 rfl W.heap.size 67 i0 (.agg #[.int .i64 0, .int .i64 0, .string ⟨#[]⟩]) 3 32 Tryd.underlying65 hi0 hz0 hz1 hz2 rfl (by decide) v4 (0 + i) ([] ++ xs) rfl O4.out ⟨b6, 0, none⟩ 1 1 [.int .i64 (a1 : Int), .int .i64 (b2 : Int), .string D] rfl rfl (I6.out.newsA) (fun u hu => by simp at hu; rcases hu with rfl | rfl | rfl <;> rfl) (by unfold maxLen; omega) (by omega) E4.out.size ?_
      intro v7 X7 hown hgrow hnn
      have D7 : Hid (Below W.heap.size W X7) := E4.out.grown hgrow E4.out.size (fun k hk => (O4.out.lt k hk).1)
      have O7 : Hid (X7.ownsRow W.heap.size 67 3 v7 (0 + i + 1) ([] ++ xs ++ [.int .i64 (a1 : Int), .int .i64 (b2 : Int), .string D])) := hown
      clear hown hgrow hnn O4 I6
      refine hK.out _ _ (KQ.out _ D7.out) (fun hH0 => ?_)
      clear hK K
      try simp only [Act.put, List.getElem_toArray, List.getElem_cons_succ, List.getElem_cons_zero, Array.toArray_toList, List.size_toArray, List.setIfInBounds_toArray, List.set_cons_zero, List.set_cons_succ]
      refine wpAnyH_ready (rs := [12]) (by kernel_rfl) (by simp) ?_
      refine AllReadyH.cons rfl (fun K hK => ?_) AllReadyH.nil
      clear hH0
      refine wp_append_own _ (.tmp 134) (.tmp 138) 65 rfl W.heap.size 67 i0 (.agg #[.int .i64 0, .int .i64 0, .string ⟨#[]⟩]) 3 32 Tryd.underlying65 hi0 hz0 hz1 hz2 rfl (by decide) v7 (0 + i + 1) ([] ++ xs ++ [.int .i64 (a1 : Int), .int .i64 (b2 : Int), .string D]) rfl O7.out ⟨g, oy, none⟩ r cr ys rfl hy (HY.out _ D7.out) hy1 (by unfold maxLen; omega) (by omega) D7.out.size ?_
      intro v8 X8 hown hgrow hnn
      have D8 : Hid (Below W.heap.size W X8) := D7.out.grown hgrow D7.out.size (fun k hk => (O7.out.lt k hk).1)
      have O8 : Hid (X8.ownsRow W.heap.size 67 3 v8 (i + 1 + r) (xs ++ [.int .i64 (a1 : Int), .int .i64 (b2 : Int), .string D] ++ ys)) := by
        have q := hown
        rw [Nat.zero_add, List.nil_append] at q
        exact q
      clear hown hgrow hnn O7
      refine hK.out _ _ (KQ.out _ D8.out) (fun hH0 => ?_)
      clear hK K
      try simp only [Act.put, List.getElem_toArray, List.getElem_cons_succ, List.getElem_cons_zero, Array.toArray_toList, List.size_toArray, List.setIfInBounds_toArray, List.set_cons_zero, List.set_cons_succ]
      refine tk (i := 13) (v := v8) rfl (by kernel_rfl) (fun _ _ _ h => h) (by kernel_rfl) ?_ hH0 ?_
      · intro V hS; obtain ⟨q1, q2, q3⟩ := hS; go_simp; try (first | omega | exact wrapN (by omega) | go_num)
      simp only [Act.put, List.getElem_toArray, List.getElem_cons_succ, List.getElem_cons_zero, Array.toArray_toList, List.size_toArray, List.setIfInBounds_toArray, List.set_cons_zero, List.set_cons_succ]
      refine wpAnyH_done (by kernel_rfl) ?_ _
      exact HQ.out _ _ _ _ _ _ _ _ _ _ _ _ _ _ _ D8.out O8.out
  · clear hH0
    go_simp
    have I6 : Hid (IHolds (v0.alloc (.cells #[.int .i64 (a1 : Int), .int .i64 (b2 : Int), .string D] 67)) v0.heap.size 67 [.int .i64 (a1 : Int), .int .i64 (b2 : Int), .string D]) := IHolds.new v0 67 [.int .i64 (a1 : Int), .int .i64 (b2 : Int), .string D]
    have E6 : Hid (Below W.heap.size W (v0.alloc (.cells #[.int .i64 (a1 : Int), .int .i64 (b2 : Int), .string D] 67))) := D0.out.trans ((nB v0 _).mono D0.out.size)
    have L6 : Hid (v0.heap.size < (v0.alloc (.cells #[.int .i64 (a1 : Int), .int .i64 (b2 : Int), .string D] 67)).heap.size) := by show _ < _; simp
    generalize v0.alloc (.cells #[.int .i64 (a1 : Int), .int .i64 (b2 : Int), .string D] 67) = X6 at *
    generalize v0.heap.size = b6 at *
    refine hK.out _ _ (KQ.out _ E6.out) (fun hH0 => ?_)
    clear hK K
    try simp only [Act.put, List.getElem_toArray, List.getElem_cons_succ, List.getElem_cons_zero, Array.toArray_toList, List.size_toArray, List.setIfInBounds_toArray, List.set_cons_zero, List.set_cons_succ]
    refine wpAnyH_ready (rs := [0]) (by kernel_rfl) (by simp) ?_
    refine AllReadyH.cons rfl (fun K hK => ?_) AllReadyH.nil
    clear hH0
    go_simp
    have O0 : Hid ((X6.alloc (.cells #[] 67)).ownsRow W.heap.size 67 3 (.slice (some ⟨X6.heap.size, 0, none⟩) 0 0) 0 []) := none_own E6.out.size
    have E0 : Hid (Below W.heap.size W (X6.alloc (.cells #[] 67))) := E6.out.trans ((nB X6 _).mono E6.out.size)
    have J6 : Hid (IHolds (X6.alloc (.cells #[] 67)) b6 67 [.int .i64 (a1 : Int), .int .i64 (b2 : Int), .string D]) := I6.out.of_below (nB X6 _)
    have N6 : Hid (b6 ≠ X6.heap.size) := fun q => by have := L6.out; omega
    clear I6 L6
    generalize hg0 : X6.heap.size = g0 at *
    have G0 : Hid (g0 < (X6.alloc (.cells #[] 67)).heap.size) := by show _ < _; rw [← hg0]; simp
    generalize X6.alloc (.cells #[] 67) = X0 at *
    clear hg0
    refine hK.out _ _ (KQ.out _ E0.out) (fun hH0 => ?_)
    clear hK K
    try simp only [Act.put, List.getElem_toArray, List.getElem_cons_succ, List.getElem_cons_zero, Array.toArray_toList, List.size_toArray, List.setIfInBounds_toArray, List.set_cons_zero, List.set_cons_succ]
    have I6 : Hid _ := J6
    clear J6
    refine wpAnyH_ready (rs := [4]) (by kernel_rfl) (by simp) ?_
    refine AllReadyH.cons rfl (fun K hK => ?_) AllReadyH.nil
    clear hH0
    refine wp_append_own _ (.tmp 127) (.tmp 130) 65 rfl W.heap.size 67 i0 (.agg #[.int .i64 0, .int .i64 0, .string ⟨#[]⟩]) 3 32 Tryd.underlying65 hi0 hz0 hz1 hz2 rfl (by decide) (.slice (some ⟨g0, 0, none⟩) 0 0) 0 [] rfl O0.out ⟨g, 0, none⟩ i cap xs rfl hx (HX.out _ E0.out) hx1 (by unfold maxLen; omega) (by omega) E0.out.size ?_
    intro v4 X4 hown hgrow hnn
    have E4 : Hid (Below W.heap.size W X4) := E0.out.grown hgrow E0.out.size (fun k hk => (O0.out.lt k hk).1)
    have O4 : Hid (X4.ownsRow W.heap.size 67 3 v4 (0 + i) ([] ++ xs)) := hown
    have J6 : Hid (IHolds X4 b6 67 [.int .i64 (a1 : Int), .int .i64 (b2 : Int), .string D]) := (hgrow.block b6 I6.out.lt (fun q => by simp [Value.ownBlock] at q; exact N6.out q)).trans I6.out
    clear I6 N6
    clear hown hgrow hnn O0
    refine hK.out _ _ (KQ.out _ E4.out) (fun hH0 => ?_)
    clear hK K
    try simp only [Act.put, List.getElem_toArray, List.getElem_cons_succ, List.getElem_cons_zero, Array.toArray_toList, List.size_toArray, List.setIfInBounds_toArray, List.set_cons_zero, List.set_cons_succ]
    have I6 : Hid _ := J6
    clear J6
    refine wpAnyH_ready (rs := [7]) (by kernel_rfl) (by simp) ?_
    refine AllReadyH.cons rfl (fun K hK => ?_) AllReadyH.nil
    clear hH0
    refine wp_append_own _ (.tmp 131) (.tmp 133) 65 rfl W.heap.size 67 i0 (.agg #[.int .i64 0, .int .i64 0, .string ⟨#[]⟩]) 3 32 Tryd.underlying65 hi0 hz0 hz1 hz2 rfl (by decide) v4 (0 + i) ([] ++ xs) rfl O4.out ⟨b6, 0, none⟩ 1 1 [.int .i64 (a1 : Int), .int .i64 (b2 : Int), .string D] rfl rfl (I6.out.newsA) (fun u hu => by simp at hu; rcases hu with rfl | rfl | rfl <;> rfl) (by unfold maxLen; omega) (by omega) E4.out.size ?_
    intro v7 X7 hown hgrow hnn
    have D7 : Hid (Below W.heap.size W X7) := E4.out.grown hgrow E4.out.size (fun k hk => (O4.out.lt k hk).1)
    have O7 : Hid (X7.ownsRow W.heap.size 67 3 v7 (0 + i + 1) ([] ++ xs ++ [.int .i64 (a1 : Int), .int .i64 (b2 : Int), .string D])) := hown
    clear hown hgrow hnn O4 I6
    refine hK.out _ _ (KQ.out _ D7.out) (fun hH0 => ?_)
    clear hK K
    try simp only [Act.put, List.getElem_toArray, List.getElem_cons_succ, List.getElem_cons_zero, Array.toArray_toList, List.size_toArray, List.setIfInBounds_toArray, List.set_cons_zero, List.set_cons_succ]
    refine wpAnyH_ready (rs := [12]) (by kernel_rfl) (by simp) ?_
    refine AllReadyH.cons rfl (fun K hK => ?_) AllReadyH.nil
    clear hH0
    refine wp_append_own _ (.tmp 134) (.tmp 138) 65 rfl W.heap.size 67 i0 (.agg #[.int .i64 0, .int .i64 0, .string ⟨#[]⟩]) 3 32 Tryd.underlying65 hi0 hz0 hz1 hz2 rfl (by decide) v7 (0 + i + 1) ([] ++ xs ++ [.int .i64 (a1 : Int), .int .i64 (b2 : Int), .string D]) rfl O7.out ⟨g, oy, none⟩ r cr ys rfl hy (HY.out _ D7.out) hy1 (by unfold maxLen; omega) (by omega) D7.out.size ?_
    intro v8 X8 hown hgrow hnn
    have D8 : Hid (Below W.heap.size W X8) := D7.out.grown hgrow D7.out.size (fun k hk => (O7.out.lt k hk).1)
    have O8 : Hid (X8.ownsRow W.heap.size 67 3 v8 (i + 1 + r) (xs ++ [.int .i64 (a1 : Int), .int .i64 (b2 : Int), .string D] ++ ys)) := by
      have q := hown
      rw [Nat.zero_add, List.nil_append] at q
      exact q
    clear hown hgrow hnn O7
    refine hK.out _ _ (KQ.out _ D8.out) (fun hH0 => ?_)
    clear hK K
    try simp only [Act.put, List.getElem_toArray, List.getElem_cons_succ, List.getElem_cons_zero, Array.toArray_toList, List.size_toArray, List.setIfInBounds_toArray, List.set_cons_zero, List.set_cons_succ]
    refine tk (i := 13) (v := v8) rfl (by kernel_rfl) (fun _ _ _ h => h) (by kernel_rfl) ?_ hH0 ?_
    · intro V hS; obtain ⟨q1, q2, q3⟩ := hS; go_simp; try (first | omega | exact wrapN (by omega) | go_num)
    simp only [Act.put, List.getElem_toArray, List.getElem_cons_succ, List.getElem_cons_zero, Array.toArray_toList, List.size_toArray, List.setIfInBounds_toArray, List.set_cons_zero, List.set_cons_succ]
    refine wpAnyH_done (by kernel_rfl) ?_ _
    exact HQ.out _ _ _ _ _ _ _ _ _ _ _ _ _ _ _ D8.out O8.out
end Go.Proofs.YtckgihloiecdmaaDoor

